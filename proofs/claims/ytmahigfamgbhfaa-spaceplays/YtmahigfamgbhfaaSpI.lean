/- Undo and Clean of a space: the loop over its map. -/
import Derived.Test.YtmahigfamgbhfaaSpH
namespace Go.Proofs.Ytmahigfamgbhfaa
open Go.RowKit Go.Maps
set_option linter.unusedVariables false
set_option linter.unusedSimpArgs false

theorem bytes_ext {s t : ByteArray} (h : s.data.toList = t.data.toList) : s = t := by
  obtain ⟨⟨x⟩⟩ := s
  obtain ⟨⟨y⟩⟩ := t
  simp at h
  rw [h]
/-- a space stays where a block is written that is neither its own nor holds versions -/
theorem Sp.but {w w' : World} {g bm n n' : Nat} {D : DataW Value} {F : ByteArray → List Ver} (h : Sp w g bm n D F) (b0 : Nat) (hk : ∀ k, k < w.heap.size → k ≠ b0 → w'.heap[k]? = w.heap[k]?) (hg : g ≠ b0) (hno : ∀ off i, w.cell? ⟨b0, off, none⟩ ≠ some (.int .i64 i)) (hm : w'.ownsMap Try.prog 9 Rv bm n' D) : Sp w' g bm n' D F :=
  ⟨(hk g (Array.getElem?_eq_some_iff.1 h.box).1 hg).trans h.box, hm, fun s => by obtain ⟨u, h1, h2⟩ := h.obj s; exact ⟨u, h1, h2.but b0 hk hno⟩, h.right, h.keys⟩
theorem Sp.put' {w w' : World} {g bm n n' : Nat} {D : DataW Value} {F : ByteArray → List Ver} (h : Sp w g bm n D F) (s : ByteArray) (u : Value) (l : List Ver) (hu : Ob w u l) (hr : rightL l = true) (hl : l ≠ [])
    (hm : w'.ownsMap Try.prog 9 Rv bm n' (D.put (klit s) (.held (.agg #[u])))) (ht : w.mapTurned w' bm) : Sp w' g bm n' (D.put (klit s) (.held (.agg #[u]))) (upd F s l) := by
  have hk : ∀ k, k < w.heap.size → k ≠ bm → w'.heap[k]? = w.heap[k]? := fun k hk hne => ht.grown.block k hk (fun e => hne (by simpa using e))
  have hno := no_int_in_map h.map
  refine ⟨(hk g (Array.getElem?_eq_some_iff.1 h.box).1 h.apart).trans h.box, hm, fun t => ?_, fun t => ?_, fun t => ?_⟩
  · by_cases e : t.data.toList = s.data.toList
    · refine ⟨u, ?_, ?_⟩
      · rw [show klit t = klit s by simp [klit, e]]
        exact atKey_put_same (k := klit s) h.map.isMap (show WideAt.IsKeyLit (Lit.string s.data.toList) from trivial) _ _
      · rw [upd, if_pos e]
        exact hu.but bm hk hno
    · obtain ⟨u', h1, h2⟩ := h.obj t
      refine ⟨u', ?_, ?_⟩
      · rw [atKey_put_other (by simpa [klit] using e)]
        exact h1
      · rw [upd, if_neg e]
        exact h2.but bm hk hno
  · unfold upd
    split
    · exact hr
    · exact h.right t
  · by_cases e : t.data.toList = s.data.toList
    · rw [show klit t = klit s by simp [klit, e], upd, if_pos e]
      exact ⟨fun _ => hl, fun _ => has_put_same (k := klit s) h.map.isMap (show WideAt.IsKeyLit (Lit.string s.data.toList) from trivial) _⟩
    · rw [has_put_other (by simpa [klit] using e), upd, if_neg e]
      exact h.keys t
theorem Sp.del {w w' : World} {g bm n n' : Nat} {D : DataW Value} {F : ByteArray → List Ver} (h : Sp w g bm n D F) (s : ByteArray)
    (hm : w'.ownsMap Try.prog 9 Rv bm n' (D.del (klit s))) (ht : w.mapTurned w' bm) : Sp w' g bm n' (D.del (klit s)) (upd F s []) := by
  have hk : ∀ k, k < w.heap.size → k ≠ bm → w'.heap[k]? = w.heap[k]? := fun k hk hne => ht.grown.block k hk (fun e => hne (by simpa using e))
  have hno := no_int_in_map h.map
  refine ⟨(hk g (Array.getElem?_eq_some_iff.1 h.box).1 h.apart).trans h.box, hm, fun t => ?_, fun t => ?_, fun t => ?_⟩
  · by_cases e : t.data.toList = s.data.toList
    · refine ⟨.slice none 0 0, ?_, ?_⟩
      · rw [show klit t = klit s by simp [klit, e]]
        exact atKey_del_same _
      · rw [upd, if_pos e]
        exact Ob.nil _
    · obtain ⟨u', h1, h2⟩ := h.obj t
      refine ⟨u', ?_, ?_⟩
      · rw [atKey_del_other (by simpa [klit] using e)]
        exact h1
      · rw [upd, if_neg e]
        exact h2.but bm hk hno
  · unfold upd
    split
    · exact aw_right0
    · exact h.right t
  · by_cases e : t.data.toList = s.data.toList
    · rw [show klit t = klit s by simp [klit, e], upd, if_pos e]
      refine ⟨fun h1 => ?_, fun h1 => absurd rfl h1⟩
      rw [has_del_same] at h1
      cases h1
    · rw [has_del_other (by simpa [klit] using e), upd, if_neg e]
      exact h.keys t
theorem struck (tr : List Ver → List Ver) (F : ByteArray → List Ver) (left : Lit → Bool) (x : ByteArray) :
    ∀ s, upd (fun s => if left (klit s) = true then F s else tr (F s)) x (tr (F x)) s = if (left (klit s) && !(klit s).sameKey (klit x)) = true then F s else tr (F s) := by
  intro s
  unfold upd
  by_cases e : s.data.toList = x.data.toList
  · rw [if_pos e, bytes_ext e]
    simp [Lit.sameKey, klit]
  · rw [if_neg e]
    have : (klit s).sameKey (klit x) = false := sameKey_ne (by simpa [klit] using e)
    simp [this]
theorem no_int_in_iter {w : World} {r : Nat} {m : Option Nat} {a : Nat} {s : Array Nat} {c : Nat} (h : w.heap[r]? = some (.mapIter m a s c)) : ∀ off i, w.cell? ⟨r, off, none⟩ ≠ some (.int .i64 i) := by
  intro off i hc
  simp [World.cell?, h] at hc
theorem no_int_in_var {w : World} {p : Nat} {a : Option Addr} {k c : Nat} (h : VarO w p (.slice a k c)) : ∀ off i, w.cell? ⟨p, off, none⟩ ≠ some (.int .i64 i) := by
  intro off i hc
  have h0 : w.heap[p]? = some (.cells #[.slice a k c] 25) := h
  rw [World.cell?] at hc
  simp only [h0] at hc
  match off, hc with
  | 0, hc => simp at hc
  | off + 1, hc => simp at hc
theorem ranges_iter {w : World} {b r n : Nat} {D : DataW Value} {left : Lit → Bool} {cnt : Nat} (h : w.ranges Try.prog 9 Rv b r n D left cnt) : ∃ m a s c, w.heap[r]? = some (.mapIter m a s c) := by
  obtain ⟨es, clock, since, seen, c0, h1, h2, h3, h4, h5, h6⟩ := h
  exact ⟨_, _, _, _, h5⟩


set_option maxRecDepth 100000 in
set_option maxHeartbeats 4000000 in
theorem change_undo (g bm n pn : Nat) (D : DataW Value) (F : ByteArray → List Ver) (m : Int) (w : World) (h : Sp w g bm n D F) (hn : n < maxLen) (hpn : w.cell? ⟨pn, 0, none⟩ = some (.int .i64 m)) :
    Calls Try.prog 58 #[.pointer (some ⟨g, 0, none⟩), .func (.func 59) #[] #[.pointer (some ⟨pn, 0, none⟩)]] w fun e w' => e = .returned (.tuple #[]) ∧ (∃ D', Sp w' g bm n D' (fun s => undoL (F s) m)) ∧ w.grownBy w' (some bm) := by
  have c0 := h.cell
  have hown := h.map
  have HBM : Hid (bm < w.heap.size) := h.map.lt
  have HPN : Hid (w.cell? ⟨pn, 0, none⟩ = some (.int .i64 m)) := hpn
  have HPB : Hid (some pn ≠ some bm) := fun e => no_int_in_map h.map 0 m (by rw [← Option.some.inj e]; exact hpn)
  have HRI : Hid (∀ s, rightL (F s) = true) := h.right
  have HSP : Hid (Sp w g bm n D F) := h
  clear h hpn
  go_enter Try.func58, Try.ntmps58
  go_wp2_with fail
  refine (all_any g bm w c0).mono ?_
  rintro e w1 ⟨rfl, hw⟩
  subst w1
  clear c0
  go_wp2_with (at_range; refine wpList_range_own _ rfl _ 83 rfl 9 25 law9 Try.underlying83 Rv bm n D rfl hown ?_; intro w0 hrg0 hg0 hs0)
  have HG0 : Hid (w.grownBy w0 (some bm)) := hg0.but _
  have HS0 : Hid (Sp w0 g bm n D (fun s => if has D (klit s) = true then F s else undoL (F s) m)) := by
    refine ((HSP.out.later ((Below.refl _ _).grown hg0 (Nat.le_refl _) (by simp)))).congr (fun s => ?_)
    by_cases e : has D (klit s) = true
    · simp [e]
    · have : F s = [] := Decidable.not_not.1 (fun hne => e ((HSP.out.keys s).2 hne))
      simp [e, this, undo_nil']
  clear hg0 hs0 hown
  go_frame
  go_loopw [] (fun wr => ∃ (D' : DataW Value) (left : Lit → Bool) (cnt : Nat), wr.ranges Try.prog 9 Rv bm w.heap.size n D' left cnt ∧ Hid (Sp wr g bm n D' (fun s => if left (klit s) = true then F s else undoL (F s) m)) ∧ Hid (w.grownBy wr (some bm)) ∧ Hid (w.heap.size + 1 ≤ wr.heap.size)) (fun wr => wr.rangeLeft bm w.heap.size)
  case atStart => exact ⟨D, _, _, hrg0, HS0, HG0, hrg0.lt⟩
  case round =>
    obtain ⟨D', left, cnt, hrg, HS, HG, HZ⟩ := hrel
    go_wp2_with (at_next; refine wpList_next_ranges _ rfl _ rfl 9 law9 Rv (fun s : ByteArray => Value.string s) (fun v : Value => v) (fun key kl hk => by obtain ⟨s, rfl, _⟩ := WideMaps.string_of_keyOf Try.underlying9 hk; exact ⟨s, rfl⟩) (fun v y _ => ⟨v, rfl⟩) bm w.heap.size n D' left cnt rfl hrg ?_ ?_)
    · intro _ hl0
      have HE : Hid (Sp wr g bm n D' (fun s => undoL (F s) m)) := HS.out.congr (fun s => by simp [hl0])
      go_wp2
      go_end0
      exact ⟨rfl, ⟨D', HE.out⟩, HG.out⟩
    · intro x c kl d ps w1 cnt1 hkey hlx hv hps hat hrg1 hlt hg1 hs1 hen
      obtain ⟨s, e1, rfl, hsz⟩ := WideMaps.string_of_keyOf Try.underlying9 hkey
      simp only [Value.string.injEq] at e1
      subst e1
      subst hv hps
      obtain ⟨u, hu, hou⟩ := HS.out.obj x
      rw [show D'.atKey (klit x) zobj = .held c from hat _] at hu
      simp only [DataW.held.injEq] at hu
      obtain ⟨a, k, c0, rfl⟩ := hou.isSlice
      subst hu
      simp only [klit, hlx, if_true] at hou
      obtain ⟨_, _, _, _, hiter⟩ := ranges_iter hrg
      have hno := no_int_in_iter hiter
      have hkb : ∀ k, k < wr.heap.size → k ≠ w.heap.size → w1.heap[k]? = wr.heap[k]? := fun k hk hne => hg1.block k hk (fun e => hne (by simpa using e))
      have hgr : g ≠ w.heap.size := fun e => by have := HS.out.box; rw [e, hiter] at this; cases this
      have HS1 : Hid (Sp w1 g bm n D' (fun s => if left (klit s) = true then F s else undoL (F s) m)) := HS.out.but w.heap.size hkb hgr hno hrg1.owns
      have HO1 : Hid (Ob w1 (.slice a k c0) (F x)) := hou.but w.heap.size hkb hno
      have HG1 : Hid (w.grownBy w1 (some bm)) := HG.out.andThen hg1 (fun j hj => by cases hj; exact Or.inl (Nat.le_refl _))
      have hbx : Below w1.heap.size w1 (w1.alloc (.cells #[.slice a k c0] 25)) := (Below.refl _ _).alloc (Nat.le_refl _) _
      have HS2 : Hid (Sp (w1.alloc (.cells #[.slice a k c0] 25)) g bm n D' (fun s => if left (klit s) = true then F s else undoL (F s) m)) := HS1.out.later hbx
      have HO2 : Hid (Ob (w1.alloc (.cells #[.slice a k c0] 25)) (.slice a k c0) (F x)) := HO1.out.later hbx
      have HR2 : Hid ((w1.alloc (.cells #[.slice a k c0] 25)).ranges Try.prog 9 Rv bm w.heap.size n D' (fun z => left z && !z.sameKey (klit x)) cnt1) := hrg1.alloc _
      have HV2 : Hid (VarO (w1.alloc (.cells #[.slice a k c0] 25)) w1.heap.size (.slice a k c0)) := heap_alloc_new w1 _
      have HG2 : Hid (w.grownBy (w1.alloc (.cells #[.slice a k c0] 25)) (some bm)) := HG1.out.andThen (World.grownBy_alloc w1 _ none) (by simp)
      have HW2 : Hid (w.heap.size ≤ w1.heap.size) := HG1.out.size
      have HLT : Hid (cnt1 < cnt) := hlt
      have HRL : Hid (wr.rangeLeft bm w.heap.size = cnt) := hrg.left_eq
      have HHAS : Hid (has D' (klit x) = true) := ranges_has hrg hlx
      clear hbx hno hkb hgr hiter hou hg1 hrg1 hat hkey hrg0 hlx hrg hlt hs1
      go_upto_region 3 with fail
      generalize w1.alloc (.cells #[.slice a k c0] 25) = w2 at *
      generalize w1.heap.size = p5 at *
      have cpn : w2.cell? ⟨pn, 0, none⟩ = some (.int .i64 m) := HG2.out.cell HPN.out HPB.out
      have q2 := HV2.out.cell
      have h3 := undo_clo pn a k c0 (F x) m w2 HO2.out (HRI.out x) cpn
      clear hen cpn
      go_wp2_with fail
      refine h3.mono ?_
      clear h3 q2
      rintro e w3 ⟨a3, k3, c3, rfl, ho3, hb3⟩
      have HS3 : Hid (Sp w3 g bm n D' (fun s => if left (klit s) = true then F s else undoL (F s) m)) := HS2.out.later hb3
      have HR3 : Hid (w3.ranges Try.prog 9 Rv bm w.heap.size n D' (fun z => left z && !z.sameKey (klit x)) cnt1) := ranges_of HR2.out (hb3.block _ HR2.out.owns.lt) (hb3.block _ HR2.out.lt)
      have HV3 : Hid (VarO w3 p5 (.slice a k c0)) := HV2.out.later hb3
      have HO3 : Hid (Ob w3 (.slice a3 k3 c3) (undoL (F x) m)) := ho3
      have HG3 : Hid (w.grownBy w3 (some bm)) := HG2.out.andThen (grown_of_below hb3) (by simp)
      have z3 := HV3.out.cell
      have f3 : w3.frozen? ⟨p5, 0, none⟩ = false := frozen_of_row w3 _ _ _ _ HV3.out
      have hset : ∀ k, k < w3.heap.size → k ≠ p5 → (w3.setCell ⟨p5, 0, none⟩ (.slice a3 k3 c3)).heap[k]? = w3.heap[k]? := fun k hk hne => Below.heap_setCell _ _ _ _ hne
      have hpb : p5 ≠ bm := fun e => by have h0 := HV3.out; obtain ⟨es, cl, hb, _⟩ := HR3.out.owns; rw [VarO, e, hb] at h0; cases h0
      have hpr : p5 ≠ w.heap.size := fun e => by have h0 := HV3.out; obtain ⟨_, _, _, _, hi⟩ := ranges_iter HR3.out; rw [VarO, e, hi] at h0; cases h0
      have hpg : g ≠ p5 := fun e => by have h0 := HV3.out; have h1 := HS3.out.box; rw [VarO, ← e, h1] at h0; cases h0
      have HR4 : Hid ((w3.setCell ⟨p5, 0, none⟩ (.slice a3 k3 c3)).ranges Try.prog 9 Rv bm w.heap.size n D' (fun z => left z && !z.sameKey (klit x)) cnt1) := ranges_of HR3.out (hset bm HR3.out.owns.lt (fun e => hpb e.symm)) (hset w.heap.size HR3.out.lt (fun e => hpr e.symm))
      have HS4 : Hid (Sp (w3.setCell ⟨p5, 0, none⟩ (.slice a3 k3 c3)) g bm n D' (fun s => if left (klit s) = true then F s else undoL (F s) m)) := HS3.out.but p5 hset hpg (no_int_in_var HV3.out) HR4.out.owns
      have HO4 : Hid (Ob (w3.setCell ⟨p5, 0, none⟩ (.slice a3 k3 c3)) (.slice a3 k3 c3) (undoL (F x) m)) := HO3.out.but p5 hset (no_int_in_var HV3.out)
      have HV4 : Hid (VarO (w3.setCell ⟨p5, 0, none⟩ (.slice a3 k3 c3)) p5 (.slice a3 k3 c3)) := heap_setCell_same w3 p5 0 _ 25 _ HV3.out
      have HG4 : Hid (w.grownBy (w3.setCell ⟨p5, 0, none⟩ (.slice a3 k3 c3)) (some bm)) := by
        refine HG3.out.andThen (row' := some p5) ⟨rfl, rfl, rfl, by simp, fun k hk hne => hset k hk (fun e => hne (by rw [e]))⟩ (fun j hj => ?_)
        cases hj
        exact Or.inl HW2.out
      clear hb3 hset hpb hpr hpg ho3 HV3 HV2
      go_upto_region 4 with fail
      generalize w3.setCell ⟨p5, 0, none⟩ (.slice a3 k3 c3) = w4 at *
      have q4 := HV4.out.cell
      have c4 := HS4.out.cell
      obtain ⟨ab, cb, eb, -⟩ := HO4.out
      simp only [Value.slice.injEq] at eb
      have hk3 : k3 = (undoL (F x) m).length := eb.2.1
      clear eb z3 f3
      by_cases hz : undoL (F x) m = []
      · have hk0 : k3 = 0 := by rw [hk3, hz]; rfl
        have HZE : Hid (undoL (F x) m = []) := hz
        clear hz hk3
        subst hk0
        go_wp2_with (at_delete; refine wpList_delete_ranges _ rfl _ _ 83 9 rfl 25 law9 Try.underlying83 _ bm w.heap.size n _ _ _ rfl HR4.out _ _ rfl (WideMaps.keyOf_string_mk Try.underlying9 hsz) ?_; intro w5 cnt5 hrg5 hle hturn; go_frame)
        rw [strike_twice] at hrg5
        go_roundw
        case rel =>
          refine ⟨_, _, cnt5, hrg5, (HS4.out.del x hrg5.owns hturn).congr (fun s => ?_), HG4.out.andThen hturn.grown (fun j hj => by cases hj; exact Or.inr rfl), ?_⟩
          · rw [← HZE.out]
            exact struck (fun l => undoL l m) F left x s
          · exact hrg5.lt
        case measure => rw [hrg5.left_eq, HRL.out]; have := HLT.out; omega
      · have hk0 : ¬ k3 = 0 := fun e => hz (List.length_eq_zero_iff.1 (by rw [← hk3]; exact e))
        have hk1 : ((k3 : Int) == 0) = false := by simp; omega
        have HZE : Hid (¬ undoL (F x) m = []) := hz
        clear hz hk3
        obtain ⟨w5, hst, hrg5, hturn⟩ := ranges_store (show w4.drew.ranges Try.prog 9 Rv bm w.heap.size n D' (fun z => left z && !z.sameKey (klit x)) cnt1 from HR4.out) hn x hsz HHAS.out (.agg #[.slice a3 k3 c3])
        have HR5 : Hid (w5.ranges Try.prog 9 Rv bm w.heap.size n (D'.put (klit x) (.held (.agg #[.slice a3 k3 c3]))) (fun z => left z && !z.sameKey (klit x)) cnt1) := hrg5
        have HT5 : Hid (w4.drew.mapTurned w5 bm) := hturn
        clear hrg5 hturn
        go_wp2
        refine wp_region_noPanic ?_
        refine wp_region_held_drew (S := (fun w' => w'.cell? ⟨g, 0, none⟩ = some (.map (some bm)) ∧ w'.cell? ⟨p5, 0, none⟩ = some (.slice a3 k3 c3))) (by kernel_rfl) ?_ (fun hHeld => ?_)
        · exact ⟨c4, q4⟩
        refine held_take (i := 0) (d := 26) (v := ?_) rfl rfl (by kernel_rfl) (by kernel_rfl) (by kernel_rfl) (fun _ _ _ h => h) (Or.inl ⟨by rfl, ?_⟩) hHeld ?_
        rotate_left
        · (intro w hSw; (try dsimp only at hSw); go_simp; all_goals (with_reducible rfl))
        try simp only [Act.put, List.setIfInBounds_toArray, List.set_cons_zero, List.set_cons_succ]
        refine held_take (i := 1) (d := 27) (v := ?_) rfl rfl (by kernel_rfl) (by kernel_rfl) (by kernel_rfl) (fun _ _ _ h => h) (Or.inl ⟨by rfl, ?_⟩) hHeld ?_
        rotate_left
        · (intro w hSw; (try dsimp only at hSw); go_simp; all_goals (with_reducible rfl))
        try simp only [Act.put, List.setIfInBounds_toArray, List.set_cons_zero, List.set_cons_succ]
        refine held_take (i := 2) (d := 28) (v := ?_) rfl rfl (by kernel_rfl) (by kernel_rfl) (by kernel_rfl) (fun _ _ _ h => h) (Or.inl ⟨by rfl, ?_⟩) hHeld ?_
        rotate_left
        · (intro w hSw; (try dsimp only at hSw); go_simp; all_goals (with_reducible rfl))
        try simp only [Act.put, List.setIfInBounds_toArray, List.set_cons_zero, List.set_cons_succ]
        refine held_take (i := 3) (d := 29) (v := ?_) rfl rfl (by kernel_rfl) (by kernel_rfl) (by kernel_rfl) (fun _ _ _ h => h) (Or.inl ⟨by rfl, ?_⟩) hHeld ?_
        rotate_left
        · (intro w hSw; (try dsimp only at hSw); go_simp; all_goals (with_reducible rfl))
        try simp only [Act.put, List.setIfInBounds_toArray, List.set_cons_zero, List.set_cons_succ]
        refine held_take (i := 4) (d := 30) (v := ?_) rfl rfl (by kernel_rfl) (by kernel_rfl) (by kernel_rfl) (fun _ _ _ h => h) (Or.inl ⟨by rfl, ?_⟩) hHeld ?_
        rotate_left
        · (intro w hSw; (try dsimp only at hSw); go_simp; all_goals (with_reducible rfl))
        try simp only [Act.put, List.setIfInBounds_toArray, List.set_cons_zero, List.set_cons_succ]
        refine held_take (i := 5) (d := 31) (v := ?_) rfl rfl (by kernel_rfl) (by kernel_rfl) (by kernel_rfl) (fun _ _ _ h => h) (Or.inl ⟨by rfl, ?_⟩) hHeld ?_
        rotate_left
        · (intro w hSw; (try dsimp only at hSw); go_simp; all_goals (with_reducible rfl))
        try simp only [Act.put, List.setIfInBounds_toArray, List.set_cons_zero, List.set_cons_succ]
        refine wpAnyH_ready (rs := [6]) (by kernel_rfl) (by simp) ?_
        refine AllReadyH.cons rfl (fun K hK => ?_) AllReadyH.nil
        go_simp
        refine hK.out _ _ ?_ (fun hHeld => ?_)
        · exact ⟨(World.cell?_of_block (HT5.out.grown.block g (World.block_lt_of_cell? w4 _ c4) (fun e => HS4.out.apart (by simpa using e)))).trans c4, (World.cell?_of_block (HT5.out.grown.block p5 HV4.out.lt (fun e => by have h0 := HV4.out; obtain ⟨es, cl, hb, _⟩ := HR4.out.owns; simp at e; rw [VarO, e, hb] at h0; cases h0))).trans q4⟩
        clear hK K
        try simp only [Act.put, List.setIfInBounds_toArray, List.set_cons_zero, List.set_cons_succ]
        refine wpAnyH_done (by kernel_rfl) ?_ _
        refine NoPanic.normal ?_
        go_wp2
        go_roundw
        case rel =>
          refine ⟨_, _, cnt1, HR5.out, (Sp.put' (HS4.out.later (Below.refl _ _).drew) x _ _ (HO4.out.later (Below.refl _ _).drew) ?_ HZE.out HR5.out.owns HT5.out).congr (fun s => struck (fun l => undoL l m) F left x s), (show w.grownBy w4.drew (some bm) from ⟨HG4.out.os, HG4.out.tape, HG4.out.output, HG4.out.size, HG4.out.block⟩).andThen HT5.out.grown (fun j hj => by cases hj; exact Or.inr rfl), HR5.out.lt⟩
          exact right_take (HRI.out x) _
        case measure => rw [HR5.out.left_eq, HRL.out]; exact HLT.out

set_option maxRecDepth 100000 in
set_option maxHeartbeats 4000000 in
theorem change_clean (g bm n pn : Nat) (D : DataW Value) (F : ByteArray → List Ver) (m : Int) (w : World) (h : Sp w g bm n D F) (hn : n < maxLen) (hpn : w.cell? ⟨pn, 0, none⟩ = some (.int .i64 m)) :
    Calls Try.prog 58 #[.pointer (some ⟨g, 0, none⟩), .func (.func 60) #[] #[.pointer (some ⟨pn, 0, none⟩)]] w fun e w' => e = .returned (.tuple #[]) ∧ (∃ D', Sp w' g bm n D' (fun s => cleanL (F s) m)) ∧ w.grownBy w' (some bm) := by
  have c0 := h.cell
  have hown := h.map
  have HBM : Hid (bm < w.heap.size) := h.map.lt
  have HPN : Hid (w.cell? ⟨pn, 0, none⟩ = some (.int .i64 m)) := hpn
  have HPB : Hid (some pn ≠ some bm) := fun e => no_int_in_map h.map 0 m (by rw [← Option.some.inj e]; exact hpn)
  have HRI : Hid (∀ s, rightL (F s) = true) := h.right
  have HSP : Hid (Sp w g bm n D F) := h
  clear h hpn
  go_enter Try.func58, Try.ntmps58
  go_wp2_with fail
  refine (all_any g bm w c0).mono ?_
  rintro e w1 ⟨rfl, hw⟩
  subst w1
  clear c0
  go_wp2_with (at_range; refine wpList_range_own _ rfl _ 83 rfl 9 25 law9 Try.underlying83 Rv bm n D rfl hown ?_; intro w0 hrg0 hg0 hs0)
  have HG0 : Hid (w.grownBy w0 (some bm)) := hg0.but _
  have HS0 : Hid (Sp w0 g bm n D (fun s => if has D (klit s) = true then F s else cleanL (F s) m)) := by
    refine ((HSP.out.later ((Below.refl _ _).grown hg0 (Nat.le_refl _) (by simp)))).congr (fun s => ?_)
    by_cases e : has D (klit s) = true
    · simp [e]
    · have : F s = [] := Decidable.not_not.1 (fun hne => e ((HSP.out.keys s).2 hne))
      simp [e, this, clean_nil']
  clear hg0 hs0 hown
  go_frame
  go_loopw [] (fun wr => ∃ (D' : DataW Value) (left : Lit → Bool) (cnt : Nat), wr.ranges Try.prog 9 Rv bm w.heap.size n D' left cnt ∧ Hid (Sp wr g bm n D' (fun s => if left (klit s) = true then F s else cleanL (F s) m)) ∧ Hid (w.grownBy wr (some bm)) ∧ Hid (w.heap.size + 1 ≤ wr.heap.size)) (fun wr => wr.rangeLeft bm w.heap.size)
  case atStart => exact ⟨D, _, _, hrg0, HS0, HG0, hrg0.lt⟩
  case round =>
    obtain ⟨D', left, cnt, hrg, HS, HG, HZ⟩ := hrel
    go_wp2_with (at_next; refine wpList_next_ranges _ rfl _ rfl 9 law9 Rv (fun s : ByteArray => Value.string s) (fun v : Value => v) (fun key kl hk => by obtain ⟨s, rfl, _⟩ := WideMaps.string_of_keyOf Try.underlying9 hk; exact ⟨s, rfl⟩) (fun v y _ => ⟨v, rfl⟩) bm w.heap.size n D' left cnt rfl hrg ?_ ?_)
    · intro _ hl0
      have HE : Hid (Sp wr g bm n D' (fun s => cleanL (F s) m)) := HS.out.congr (fun s => by simp [hl0])
      go_wp2
      go_end0
      exact ⟨rfl, ⟨D', HE.out⟩, HG.out⟩
    · intro x c kl d ps w1 cnt1 hkey hlx hv hps hat hrg1 hlt hg1 hs1 hen
      obtain ⟨s, e1, rfl, hsz⟩ := WideMaps.string_of_keyOf Try.underlying9 hkey
      simp only [Value.string.injEq] at e1
      subst e1
      subst hv hps
      obtain ⟨u, hu, hou⟩ := HS.out.obj x
      rw [show D'.atKey (klit x) zobj = .held c from hat _] at hu
      simp only [DataW.held.injEq] at hu
      obtain ⟨a, k, c0, rfl⟩ := hou.isSlice
      subst hu
      simp only [klit, hlx, if_true] at hou
      obtain ⟨_, _, _, _, hiter⟩ := ranges_iter hrg
      have hno := no_int_in_iter hiter
      have hkb : ∀ k, k < wr.heap.size → k ≠ w.heap.size → w1.heap[k]? = wr.heap[k]? := fun k hk hne => hg1.block k hk (fun e => hne (by simpa using e))
      have hgr : g ≠ w.heap.size := fun e => by have := HS.out.box; rw [e, hiter] at this; cases this
      have HS1 : Hid (Sp w1 g bm n D' (fun s => if left (klit s) = true then F s else cleanL (F s) m)) := HS.out.but w.heap.size hkb hgr hno hrg1.owns
      have HO1 : Hid (Ob w1 (.slice a k c0) (F x)) := hou.but w.heap.size hkb hno
      have HG1 : Hid (w.grownBy w1 (some bm)) := HG.out.andThen hg1 (fun j hj => by cases hj; exact Or.inl (Nat.le_refl _))
      have hbx : Below w1.heap.size w1 (w1.alloc (.cells #[.slice a k c0] 25)) := (Below.refl _ _).alloc (Nat.le_refl _) _
      have HS2 : Hid (Sp (w1.alloc (.cells #[.slice a k c0] 25)) g bm n D' (fun s => if left (klit s) = true then F s else cleanL (F s) m)) := HS1.out.later hbx
      have HO2 : Hid (Ob (w1.alloc (.cells #[.slice a k c0] 25)) (.slice a k c0) (F x)) := HO1.out.later hbx
      have HR2 : Hid ((w1.alloc (.cells #[.slice a k c0] 25)).ranges Try.prog 9 Rv bm w.heap.size n D' (fun z => left z && !z.sameKey (klit x)) cnt1) := hrg1.alloc _
      have HV2 : Hid (VarO (w1.alloc (.cells #[.slice a k c0] 25)) w1.heap.size (.slice a k c0)) := heap_alloc_new w1 _
      have HG2 : Hid (w.grownBy (w1.alloc (.cells #[.slice a k c0] 25)) (some bm)) := HG1.out.andThen (World.grownBy_alloc w1 _ none) (by simp)
      have HW2 : Hid (w.heap.size ≤ w1.heap.size) := HG1.out.size
      have HLT : Hid (cnt1 < cnt) := hlt
      have HRL : Hid (wr.rangeLeft bm w.heap.size = cnt) := hrg.left_eq
      have HHAS : Hid (has D' (klit x) = true) := ranges_has hrg hlx
      clear hbx hno hkb hgr hiter hou hg1 hrg1 hat hkey hrg0 hlx hrg hlt hs1
      go_upto_region 3 with fail
      generalize w1.alloc (.cells #[.slice a k c0] 25) = w2 at *
      generalize w1.heap.size = p5 at *
      have cpn : w2.cell? ⟨pn, 0, none⟩ = some (.int .i64 m) := HG2.out.cell HPN.out HPB.out
      have q2 := HV2.out.cell
      have h3 := clean_clo pn a k c0 (F x) m w2 HO2.out (HRI.out x) cpn
      clear hen cpn
      go_wp2_with fail
      refine h3.mono ?_
      clear h3 q2
      rintro e w3 ⟨a3, k3, c3, rfl, ho3, hb3⟩
      have HS3 : Hid (Sp w3 g bm n D' (fun s => if left (klit s) = true then F s else cleanL (F s) m)) := HS2.out.later hb3
      have HR3 : Hid (w3.ranges Try.prog 9 Rv bm w.heap.size n D' (fun z => left z && !z.sameKey (klit x)) cnt1) := ranges_of HR2.out (hb3.block _ HR2.out.owns.lt) (hb3.block _ HR2.out.lt)
      have HV3 : Hid (VarO w3 p5 (.slice a k c0)) := HV2.out.later hb3
      have HO3 : Hid (Ob w3 (.slice a3 k3 c3) (cleanL (F x) m)) := ho3
      have HG3 : Hid (w.grownBy w3 (some bm)) := HG2.out.andThen (grown_of_below hb3) (by simp)
      have z3 := HV3.out.cell
      have f3 : w3.frozen? ⟨p5, 0, none⟩ = false := frozen_of_row w3 _ _ _ _ HV3.out
      have hset : ∀ k, k < w3.heap.size → k ≠ p5 → (w3.setCell ⟨p5, 0, none⟩ (.slice a3 k3 c3)).heap[k]? = w3.heap[k]? := fun k hk hne => Below.heap_setCell _ _ _ _ hne
      have hpb : p5 ≠ bm := fun e => by have h0 := HV3.out; obtain ⟨es, cl, hb, _⟩ := HR3.out.owns; rw [VarO, e, hb] at h0; cases h0
      have hpr : p5 ≠ w.heap.size := fun e => by have h0 := HV3.out; obtain ⟨_, _, _, _, hi⟩ := ranges_iter HR3.out; rw [VarO, e, hi] at h0; cases h0
      have hpg : g ≠ p5 := fun e => by have h0 := HV3.out; have h1 := HS3.out.box; rw [VarO, ← e, h1] at h0; cases h0
      have HR4 : Hid ((w3.setCell ⟨p5, 0, none⟩ (.slice a3 k3 c3)).ranges Try.prog 9 Rv bm w.heap.size n D' (fun z => left z && !z.sameKey (klit x)) cnt1) := ranges_of HR3.out (hset bm HR3.out.owns.lt (fun e => hpb e.symm)) (hset w.heap.size HR3.out.lt (fun e => hpr e.symm))
      have HS4 : Hid (Sp (w3.setCell ⟨p5, 0, none⟩ (.slice a3 k3 c3)) g bm n D' (fun s => if left (klit s) = true then F s else cleanL (F s) m)) := HS3.out.but p5 hset hpg (no_int_in_var HV3.out) HR4.out.owns
      have HO4 : Hid (Ob (w3.setCell ⟨p5, 0, none⟩ (.slice a3 k3 c3)) (.slice a3 k3 c3) (cleanL (F x) m)) := HO3.out.but p5 hset (no_int_in_var HV3.out)
      have HV4 : Hid (VarO (w3.setCell ⟨p5, 0, none⟩ (.slice a3 k3 c3)) p5 (.slice a3 k3 c3)) := heap_setCell_same w3 p5 0 _ 25 _ HV3.out
      have HG4 : Hid (w.grownBy (w3.setCell ⟨p5, 0, none⟩ (.slice a3 k3 c3)) (some bm)) := by
        refine HG3.out.andThen (row' := some p5) ⟨rfl, rfl, rfl, by simp, fun k hk hne => hset k hk (fun e => hne (by rw [e]))⟩ (fun j hj => ?_)
        cases hj
        exact Or.inl HW2.out
      clear hb3 hset hpb hpr hpg ho3 HV3 HV2
      go_upto_region 4 with fail
      generalize w3.setCell ⟨p5, 0, none⟩ (.slice a3 k3 c3) = w4 at *
      have q4 := HV4.out.cell
      have c4 := HS4.out.cell
      obtain ⟨ab, cb, eb, -⟩ := HO4.out
      simp only [Value.slice.injEq] at eb
      have hk3 : k3 = (cleanL (F x) m).length := eb.2.1
      clear eb z3 f3
      by_cases hz : cleanL (F x) m = []
      · have hk0 : k3 = 0 := by rw [hk3, hz]; rfl
        have HZE : Hid (cleanL (F x) m = []) := hz
        clear hz hk3
        subst hk0
        go_wp2_with (at_delete; refine wpList_delete_ranges _ rfl _ _ 83 9 rfl 25 law9 Try.underlying83 _ bm w.heap.size n _ _ _ rfl HR4.out _ _ rfl (WideMaps.keyOf_string_mk Try.underlying9 hsz) ?_; intro w5 cnt5 hrg5 hle hturn; go_frame)
        rw [strike_twice] at hrg5
        go_roundw
        case rel =>
          refine ⟨_, _, cnt5, hrg5, (HS4.out.del x hrg5.owns hturn).congr (fun s => ?_), HG4.out.andThen hturn.grown (fun j hj => by cases hj; exact Or.inr rfl), ?_⟩
          · rw [← HZE.out]
            exact struck (fun l => cleanL l m) F left x s
          · exact hrg5.lt
        case measure => rw [hrg5.left_eq, HRL.out]; have := HLT.out; omega
      · have hk0 : ¬ k3 = 0 := fun e => hz (List.length_eq_zero_iff.1 (by rw [← hk3]; exact e))
        have hk1 : ((k3 : Int) == 0) = false := by simp; omega
        have HZE : Hid (¬ cleanL (F x) m = []) := hz
        clear hz hk3
        obtain ⟨w5, hst, hrg5, hturn⟩ := ranges_store (show w4.drew.ranges Try.prog 9 Rv bm w.heap.size n D' (fun z => left z && !z.sameKey (klit x)) cnt1 from HR4.out) hn x hsz HHAS.out (.agg #[.slice a3 k3 c3])
        have HR5 : Hid (w5.ranges Try.prog 9 Rv bm w.heap.size n (D'.put (klit x) (.held (.agg #[.slice a3 k3 c3]))) (fun z => left z && !z.sameKey (klit x)) cnt1) := hrg5
        have HT5 : Hid (w4.drew.mapTurned w5 bm) := hturn
        clear hrg5 hturn
        go_wp2
        refine wp_region_noPanic ?_
        refine wp_region_held_drew (S := (fun w' => w'.cell? ⟨g, 0, none⟩ = some (.map (some bm)) ∧ w'.cell? ⟨p5, 0, none⟩ = some (.slice a3 k3 c3))) (by kernel_rfl) ?_ (fun hHeld => ?_)
        · exact ⟨c4, q4⟩
        refine held_take (i := 0) (d := 26) (v := ?_) rfl rfl (by kernel_rfl) (by kernel_rfl) (by kernel_rfl) (fun _ _ _ h => h) (Or.inl ⟨by rfl, ?_⟩) hHeld ?_
        rotate_left
        · (intro w hSw; (try dsimp only at hSw); go_simp; all_goals (with_reducible rfl))
        try simp only [Act.put, List.setIfInBounds_toArray, List.set_cons_zero, List.set_cons_succ]
        refine held_take (i := 1) (d := 27) (v := ?_) rfl rfl (by kernel_rfl) (by kernel_rfl) (by kernel_rfl) (fun _ _ _ h => h) (Or.inl ⟨by rfl, ?_⟩) hHeld ?_
        rotate_left
        · (intro w hSw; (try dsimp only at hSw); go_simp; all_goals (with_reducible rfl))
        try simp only [Act.put, List.setIfInBounds_toArray, List.set_cons_zero, List.set_cons_succ]
        refine held_take (i := 2) (d := 28) (v := ?_) rfl rfl (by kernel_rfl) (by kernel_rfl) (by kernel_rfl) (fun _ _ _ h => h) (Or.inl ⟨by rfl, ?_⟩) hHeld ?_
        rotate_left
        · (intro w hSw; (try dsimp only at hSw); go_simp; all_goals (with_reducible rfl))
        try simp only [Act.put, List.setIfInBounds_toArray, List.set_cons_zero, List.set_cons_succ]
        refine held_take (i := 3) (d := 29) (v := ?_) rfl rfl (by kernel_rfl) (by kernel_rfl) (by kernel_rfl) (fun _ _ _ h => h) (Or.inl ⟨by rfl, ?_⟩) hHeld ?_
        rotate_left
        · (intro w hSw; (try dsimp only at hSw); go_simp; all_goals (with_reducible rfl))
        try simp only [Act.put, List.setIfInBounds_toArray, List.set_cons_zero, List.set_cons_succ]
        refine held_take (i := 4) (d := 30) (v := ?_) rfl rfl (by kernel_rfl) (by kernel_rfl) (by kernel_rfl) (fun _ _ _ h => h) (Or.inl ⟨by rfl, ?_⟩) hHeld ?_
        rotate_left
        · (intro w hSw; (try dsimp only at hSw); go_simp; all_goals (with_reducible rfl))
        try simp only [Act.put, List.setIfInBounds_toArray, List.set_cons_zero, List.set_cons_succ]
        refine held_take (i := 5) (d := 31) (v := ?_) rfl rfl (by kernel_rfl) (by kernel_rfl) (by kernel_rfl) (fun _ _ _ h => h) (Or.inl ⟨by rfl, ?_⟩) hHeld ?_
        rotate_left
        · (intro w hSw; (try dsimp only at hSw); go_simp; all_goals (with_reducible rfl))
        try simp only [Act.put, List.setIfInBounds_toArray, List.set_cons_zero, List.set_cons_succ]
        refine wpAnyH_ready (rs := [6]) (by kernel_rfl) (by simp) ?_
        refine AllReadyH.cons rfl (fun K hK => ?_) AllReadyH.nil
        go_simp
        refine hK.out _ _ ?_ (fun hHeld => ?_)
        · exact ⟨(World.cell?_of_block (HT5.out.grown.block g (World.block_lt_of_cell? w4 _ c4) (fun e => HS4.out.apart (by simpa using e)))).trans c4, (World.cell?_of_block (HT5.out.grown.block p5 HV4.out.lt (fun e => by have h0 := HV4.out; obtain ⟨es, cl, hb, _⟩ := HR4.out.owns; simp at e; rw [VarO, e, hb] at h0; cases h0))).trans q4⟩
        clear hK K
        try simp only [Act.put, List.setIfInBounds_toArray, List.set_cons_zero, List.set_cons_succ]
        refine wpAnyH_done (by kernel_rfl) ?_ _
        refine NoPanic.normal ?_
        go_wp2
        go_roundw
        case rel =>
          refine ⟨_, _, cnt1, HR5.out, (Sp.put' (HS4.out.later (Below.refl _ _).drew) x _ _ (HO4.out.later (Below.refl _ _).drew) ?_ HZE.out HR5.out.owns HT5.out).congr (fun s => struck (fun l => cleanL l m) F left x s), (show w.grownBy w4.drew (some bm) from ⟨HG4.out.os, HG4.out.tape, HG4.out.output, HG4.out.size, HG4.out.block⟩).andThen HT5.out.grown (fun j hj => by cases hj; exact Or.inr rfl), HR5.out.lt⟩
          exact right_drop (HRI.out x) _
        case measure => rw [HR5.out.left_eq, HRL.out]; exact HLT.out
end Go.Proofs.Ytmahigfamgbhfaa
