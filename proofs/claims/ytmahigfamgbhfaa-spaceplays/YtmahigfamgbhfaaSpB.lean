/- What Put of a space does: a contract. -/
import Derived.Test.YtmahigfamgbhfaaSpA
import Derived.Deep.RegionHeld3
import Derived.Deep.Cut
namespace Go.Proofs.Ytmahigfamgbhfaa
open Go.RowKit Go.Maps
set_option linter.unusedVariables false
set_option linter.unusedSimpArgs false

/-- objects by keys, one of them another one -/
def upd (F : ByteArray → List Ver) (s : ByteArray) (l : List Ver) : ByteArray → List Ver := fun t => if t.data.toList = s.data.toList then l else F t
theorem upd_same (F : ByteArray → List Ver) (s : ByteArray) (l : List Ver) : upd F s l s = l := if_pos rfl
theorem upd_other (F : ByteArray → List Ver) (s t : ByteArray) (l : List Ver) (h : ¬ t.data.toList = s.data.toList) : upd F s l t = F t := if_neg h

theorem no_int_in_map {w : World} {bm n : Nat} {D : DataW Value} (h : w.ownsMap Try.prog 9 Rv bm n D) : ∀ off i, w.cell? ⟨bm, off, none⟩ ≠ some (.int .i64 i) := by
  intro off i hc
  obtain ⟨es, clock, hb, _⟩ := h
  simp [World.cell?, hb] at hc
theorem Sp.put {w w' : World} {g bm n : Nat} {D : DataW Value} {F : ByteArray → List Ver} (h : Sp w g bm n D F) (s : ByteArray) (u : Value) (l : List Ver) (hu : Ob w u l) (hr : rightL l = true) (hl : l ≠ [])
    (hm : w'.ownsMap Try.prog 9 Rv bm (n + 1) (D.put (klit s) (.held (.agg #[u])))) (ht : w.mapTurned w' bm) (hg : g ≠ bm) : Sp w' g bm (n + 1) (D.put (klit s) (.held (.agg #[u]))) (upd F s l) := by
  have hk : ∀ k, k < w.heap.size → k ≠ bm → w'.heap[k]? = w.heap[k]? := fun k hk hne => ht.grown.block k hk (fun e => hne (by simpa using e))
  have hno := no_int_in_map h.map
  refine ⟨(hk g (Array.getElem?_eq_some_iff.1 h.box).1 hg).trans h.box, hm, fun t => ?_, fun t => ?_, fun t => ?_⟩
  · by_cases e : t.data.toList = s.data.toList
    · refine ⟨u, ?_, ?_⟩
      · rw [show klit t = klit s by simp [klit, e]]
        exact atKey_put_same (k := klit s) h.map.isMap (show WideAt.IsKeyLit (Lit.string s.data.toList) from trivial) _ _
      · rw [upd, if_pos e]
        exact hu.but bm hk hno
    · obtain ⟨u', h1, h2⟩ := h.obj t
      refine ⟨u', ?_, ?_⟩
      · rw [atKey_put_other (by simpa [klit] using e)]
        exact h1
      · rw [upd, if_neg e]
        exact h2.but bm hk hno
  · unfold upd
    split
    · exact hr
    · exact h.right t
  · by_cases e : t.data.toList = s.data.toList
    · rw [show klit t = klit s by simp [klit, e], upd, if_pos e]
      exact ⟨fun _ => hl, fun _ => has_put_same (k := klit s) h.map.isMap (show WideAt.IsKeyLit (Lit.string s.data.toList) from trivial) _⟩
    · rw [has_put_other (by simpa [klit] using e), upd, if_neg e]
      exact h.keys t
theorem Sp.apart {w : World} {g bm n : Nat} {D : DataW Value} {F : ByteArray → List Ver} (h : Sp w g bm n D F) : g ≠ bm := fun e => by
  have h1 := h.box
  obtain ⟨es, clock, hb, _⟩ := h.map
  rw [e, hb] at h1
  cases h1
theorem eql83 (bm : Nat) (w : World) : (binOp .eql 83 (.map (some bm)) (.map none)).run Try.prog w = .ok (.bool false) w := by kernel_rfl


theorem sput_key (g bm n : Nat) (D : DataW Value) (F : ByteArray → List Ver) (s : ByteArray) (p : Int) (v : ByteArray) (gn : Bool) (w : World) (h : Sp w g bm n D F) (hs : s.size ≤ maxLen) (hk : right s = false) :
    Calls Try.prog 38 #[.pointer (some ⟨g, 0, none⟩), .string s, .int .i64 p, .string v, .bool gn] w fun e w' => e = .returned (.int .i64 1) ∧ w' = w := by
  have h1 := kright_any s w hs
  rw [hk] at h1
  clear h
  go_enter Try.func38, Try.ntmps38
  go_wp2_with fail
  refine h1.mono ?_
  rintro e w1 ⟨rfl, hw⟩
  subst w1
  go_wp2
  go_ret
  exact ⟨rfl, rfl⟩

set_option maxRecDepth 100000 in
theorem sput_arg (g bm n : Nat) (D : DataW Value) (F : ByteArray → List Ver) (s : ByteArray) (p : Int) (v : ByteArray) (gn : Bool) (w : World) (h : Sp w g bm n D F) (hs : s.size ≤ maxLen) (hv : v.size ≤ maxLen) (hk : right s = true) (hno : p ≤ (lastL (F s)).pos ∨ may v gn = false) :
    Calls Try.prog 38 #[.pointer (some ⟨g, 0, none⟩), .string s, .int .i64 p, .string v, .bool gn] w fun e w' => e = .returned (.int .i64 1) ∧ Below w.heap.size w w' := by
  have h1 := kright_any s w hs
  rw [hk] at h1
  have c0 := h.cell
  obtain ⟨a, k, c, hrun, ho⟩ := h.look s hs
  have h2 := put_arg _ (F s) p v gn w ho (h.right s) hv hno
  clear h ho hno
  go_enter Try.func38, Try.ntmps38
  go_wp2_with fail
  refine h1.mono ?_
  rintro e w1 ⟨rfl, hw⟩
  subst w1
  go_wp2_with fail
  refine h2.mono ?_
  clear h2 h1 hrun
  rintro e w2 ⟨rfl, hb2⟩
  have HB : Hid (Below w.heap.size w (w2.alloc (.cells #[.slice none 0 0] 25))) := hb2.alloc hb2.size _
  go_wp2
  go_ret
  exact ⟨rfl, HB.out⟩


set_option maxRecDepth 100000 in
set_option maxHeartbeats 2000000 in
theorem sput_ok (g bm n : Nat) (D : DataW Value) (F : ByteArray → List Ver) (s : ByteArray) (p : Int) (v : ByteArray) (gn : Bool) (w : World) (h : Sp w g bm n D F) (hn : n < maxLen) (hs : s.size ≤ maxLen) (hpw : (Lit.int .i64 p).wf = true) (hv : v.size ≤ maxLen) (hk : right s = true)
    (hp : (lastL (F s)).pos < p) (hmay : may v gn = true) (hfull : (lastL (F s)).num < 18446744073709551615) (hshort : (F s).length < 1000000000) (h1p : 1 ≤ p) :
    Calls Try.prog 38 #[.pointer (some ⟨g, 0, none⟩), .string s, .int .i64 p, .string v, .bool gn] w fun e w' => e = .returned (.int .i64 0) ∧ (∃ D', Sp w' g bm (n + 1) D' (upd F s (F s ++ [⟨p, (lastL (F s)).num + 1, v, gn⟩]))) ∧ (∀ k, k < w.heap.size → k ≠ bm → w'.heap[k]? = w.heap[k]?) ∧ (∀ B, B ≤ w.heap.size → B ≤ bm → Below B w w') := by
  have h1 := kright_any s w hs
  rw [hk] at h1
  have c0 := h.cell
  obtain ⟨a, k, c, hrun, ho⟩ := h.look s hs
  have h2 := put_ok _ (F s) p v gn w ho (h.right s) hpw hv hp hmay hfull hshort
  have hr2 : rightL (F s ++ [⟨p, (lastL (F s)).num + 1, v, gn⟩]) = true := right_snoc (h.right s) _ rfl hfull hp h1p hmay
  have HSP : Hid (Sp w g bm n D F) := h
  have HE : Hid (F s ++ [⟨p, (lastL (F s)).num + 1, v, gn⟩] = F s ++ [⟨p, (lastL (F s)).num + 1, v, gn⟩]) := rfl
  have HR2 : Hid (rightL (F s ++ [⟨p, (lastL (F s)).num + 1, v, gn⟩]) = true) := hr2
  clear h ho hp hmay hfull hshort hr2 HE
  have hq := eql83 bm
  go_enter Try.func38, Try.ntmps38
  go_wp2_with fail
  refine h1.mono ?_
  rintro e w1 ⟨rfl, hw⟩
  subst w1
  go_wp2_with fail
  refine h2.mono ?_
  clear h2 h1 hrun
  rintro e w2 ⟨u2, rfl, ho2, hb2⟩
  obtain ⟨t2, n2, k2, rfl⟩ := ho2.isSlice
  have hbx : Below w2.heap.size w2 (w2.alloc (.cells #[.slice t2 n2 k2] 25)) := (Below.refl _ _).alloc (Nat.le_refl _) _
  have HB3 : Hid (Below w.heap.size w (w2.alloc (.cells #[.slice t2 n2 k2] 25))) := hb2.trans (hbx.mono hb2.size)
  have HO3 : Hid (Ob (w2.alloc (.cells #[.slice t2 n2 k2] 25)) (.slice t2 n2 k2) (F s ++ [⟨p, (lastL (F s)).num + 1, v, gn⟩])) := ho2.later hbx
  have HV3 : Hid (VarO (w2.alloc (.cells #[.slice t2 n2 k2] 25)) w2.heap.size (.slice t2 n2 k2)) := heap_alloc_new w2 _
  clear hb2 hbx ho2 c0
  go_upto_region 6 with fail
  generalize w2.alloc (.cells #[.slice t2 n2 k2] 25) = w3 at *
  generalize w2.heap.size = p11 at *
  have HS3 : Hid (Sp w3 g bm n D F) := HSP.out.later HB3.out
  have c3 := HS3.out.cell
  have d3 := HV3.out.cell
  go_upto_region 10 with fail
  obtain ⟨w4, hst, hown4, hturn4⟩ := (HS3.out.map.drew).store law9 Try.underlying83 hn (WideMaps.keyOf_string_mk Try.underlying9 hs) (val := .agg #[.slice t2 n2 k2]) rfl
  have HOW : Hid (w4.ownsMap Try.prog 9 Rv bm (n + 1) (D.put (klit s) (.held (.agg #[.slice t2 n2 k2])))) := hown4
  have HTU : Hid (w3.drew.mapTurned w4 bm) := hturn4
  clear hown4 hturn4
  refine wp_region_noPanic ?_
  refine wp_region_held_drew (S := (fun w' => w'.cell? ⟨g, 0, none⟩ = some (.map (some bm)) ∧ w'.cell? ⟨p11, 0, none⟩ = some (.slice t2 n2 k2))) (by kernel_rfl) ?_ (fun hHeld => ?_)
  · exact ⟨c3, d3⟩
  refine held_take (i := 0) (d := 43) (v := ?_) rfl rfl (by kernel_rfl) (by kernel_rfl) (by kernel_rfl) (fun _ _ _ h => h) (Or.inl ⟨by rfl, ?_⟩) hHeld ?_
  rotate_left
  · (intro w hSw; (try dsimp only at hSw); go_simp; all_goals (with_reducible rfl))
  try simp only [Act.put, List.setIfInBounds_toArray, List.set_cons_zero, List.set_cons_succ]
  refine held_take (i := 1) (d := 44) (v := ?_) rfl rfl (by kernel_rfl) (by kernel_rfl) (by kernel_rfl) (fun _ _ _ h => h) (Or.inl ⟨by rfl, ?_⟩) hHeld ?_
  rotate_left
  · (intro w hSw; (try dsimp only at hSw); go_simp; all_goals (with_reducible rfl))
  try simp only [Act.put, List.setIfInBounds_toArray, List.set_cons_zero, List.set_cons_succ]
  refine held_take (i := 2) (d := 45) (v := ?_) rfl rfl (by kernel_rfl) (by kernel_rfl) (by kernel_rfl) (fun _ _ _ h => h) (Or.inl ⟨by rfl, ?_⟩) hHeld ?_
  rotate_left
  · (intro w hSw; (try dsimp only at hSw); go_simp; all_goals (with_reducible rfl))
  try simp only [Act.put, List.setIfInBounds_toArray, List.set_cons_zero, List.set_cons_succ]
  refine held_take (i := 3) (d := 46) (v := ?_) rfl rfl (by kernel_rfl) (by kernel_rfl) (by kernel_rfl) (fun _ _ _ h => h) (Or.inl ⟨by rfl, ?_⟩) hHeld ?_
  rotate_left
  · (intro w hSw; (try dsimp only at hSw); go_simp; all_goals (with_reducible rfl))
  try simp only [Act.put, List.setIfInBounds_toArray, List.set_cons_zero, List.set_cons_succ]
  refine held_take (i := 4) (d := 47) (v := ?_) rfl rfl (by kernel_rfl) (by kernel_rfl) (by kernel_rfl) (fun _ _ _ h => h) (Or.inl ⟨by rfl, ?_⟩) hHeld ?_
  rotate_left
  · (intro w hSw; (try dsimp only at hSw); go_simp; all_goals (with_reducible rfl))
  try simp only [Act.put, List.setIfInBounds_toArray, List.set_cons_zero, List.set_cons_succ]
  refine held_take (i := 5) (d := 48) (v := ?_) rfl rfl (by kernel_rfl) (by kernel_rfl) (by kernel_rfl) (fun _ _ _ h => h) (Or.inl ⟨by rfl, ?_⟩) hHeld ?_
  rotate_left
  · (intro w hSw; (try dsimp only at hSw); go_simp; all_goals (with_reducible rfl))
  try simp only [Act.put, List.setIfInBounds_toArray, List.set_cons_zero, List.set_cons_succ]
  refine wpAnyH_ready (rs := [6]) (by kernel_rfl) (by simp) ?_
  refine AllReadyH.cons rfl (fun K hK => ?_) AllReadyH.nil
  go_simp
  refine hK.out _ _ ?_ (fun hHeld => ?_)
  · exact ⟨(World.cell?_of_block (HTU.out.grown.block g (World.block_lt_of_cell? w3 _ c3) (fun e => HS3.out.apart (by simpa using e)))).trans c3, (World.cell?_of_block (HTU.out.grown.block p11 HV3.out.lt (fun e => by have h0 := HV3.out; obtain ⟨es, cl, hb, _⟩ := HS3.out.map; simp at e; rw [VarO, e, hb] at h0; cases h0))).trans d3⟩
  clear hK K
  try simp only [Act.put, List.setIfInBounds_toArray, List.set_cons_zero, List.set_cons_succ]
  refine wpAnyH_done (by kernel_rfl) ?_ _
  refine NoPanic.normal ?_
  go_wp2
  go_ret
  have hfrm : ∀ k, k < w.heap.size → k ≠ bm → w4.heap[k]? = w.heap[k]? := fun k hk hne => (HTU.out.grown.block k (Nat.lt_of_lt_of_le hk HB3.out.size) (fun e => hne (by simpa using e))).trans (HB3.out.block k hk)
  refine ⟨rfl, ⟨_, Sp.put (HS3.out.later (Below.refl _ _).drew) s (.slice t2 n2 k2) _ (HO3.out.later (Below.refl _ _).drew) HR2.out (by simp) HOW.out HTU.out HS3.out.apart⟩, hfrm, fun B h1 h2 => ?_⟩
  have hg := HTU.out.grown
  exact ⟨hg.os.trans HB3.out.os, hg.tape.trans HB3.out.tape, hg.output.trans HB3.out.output, Nat.le_trans HB3.out.size hg.size, fun k hk => hfrm k (by omega) (by omega)⟩
end Go.Proofs.Ytmahigfamgbhfaa
