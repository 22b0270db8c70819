/- Same of two spaces: a contract. -/
import Derived.Test.YtmahigfamgbhfaaSpD
import Derived.Test.YtmahigfamgbhfaaSpY
import Derived.Test.YtmahigfamgbhfaaObJ
namespace Go.Proofs.Ytmahigfamgbhfaa
open Go.RowKit Go.Maps
set_option linter.unusedVariables false
set_option linter.unusedSimpArgs false

theorem eqV_iff {a b : Ver} : eqV a b = true ↔ a = b := by
  constructor
  · intro h
    obtain ⟨p, n, v, g⟩ := a
    obtain ⟨p', n', v', g'⟩ := b
    simp only [eqV, Bool.and_eq_true, beq_iff_eq] at h
    obtain ⟨⟨⟨h1, h2⟩, h3⟩, h4⟩ := h
    have h2' : n = n' := by omega
    have h3' : v = v' := Go.WideShapes.bytes_inj ((bytes_same _ _).1 h3)
    rw [h1, h2', h3', h4]
  · rintro rfl
    exact eqV_self a
theorem sameB_iff {l m : List Ver} : sameB l m = true ↔ l = m := by
  constructor
  · intro h
    simp only [sameB, Bool.and_eq_true, decide_eq_true_eq] at h
    refine List.ext_getElem h.1 (fun i h1 h2 => ?_)
    have := eqV_iff.1 (h.2 i h1)
    simpa [nth, h1, h2] using this
  · rintro rfl
    exact sameB_self l
theorem sameB_not {l m : List Ver} (h : l ≠ m) : sameB l m = false := by
  cases hs : sameB l m with
  | false => rfl
  | true => exact absurd (sameB_iff.1 hs) h
theorem Sp.has' {w : World} {g bm n : Nat} {D : DataW Value} {F : ByteArray → List Ver} (h : Sp w g bm n D F) (b : Bs) : has D (.string b) = true ↔ F ⟨b.toArray⟩ ≠ [] := by
  have := h.keys ⟨b.toArray⟩
  simpa [klit] using this
theorem Sp.look_ok {w : World} {g bm n : Nat} {D : DataW Value} {F : ByteArray → List Ver} (h : Sp w g bm n D F) (s : ByteArray) (hs : s.size ≤ maxLen) :
    ∃ a k c, (Instr.lookup 83 (.map (some bm)) (.string s) true).run Try.prog w = .ok (.tuple #[.agg #[.slice a k c], .bool (has D (klit s))]) w ∧ Ob w (.slice a k c) (F s) := by
  obtain ⟨v, ps, hrun, hv⟩ := h.map.look_ok law9 Try.underlying83 (zero25 w) (zd := zobj) (zp := []) rfl (WideMaps.keyOf_string_mk Try.underlying9 hs)
  obtain ⟨u, h1, h2⟩ := h.obj s
  obtain ⟨a, k, c, rfl⟩ := h2.isSlice
  simp only [Option.some.injEq, Prod.mk.injEq] at hv
  rw [h1] at hv
  simp only [DataW.held.injEq] at hv
  rw [hv.1] at hrun
  exact ⟨a, k, c, hrun, h2⟩
theorem Sp.count {w : World} {g bm n : Nat} {D : DataW Value} {F : ByteArray → List Ver} (h : Sp w g bm n D F) (ty : TypeId) : (Builtin.len_ #[83] ty #[.map (some bm)]).run Try.prog w = .ok (.int .i64 (size D : Nat)) w := h.map.len Try.underlying83 ty

set_option maxRecDepth 100000 in
set_option maxHeartbeats 8000000 in
theorem eqf_any (g1 b1 n1 g2 b2 n2 : Nat) (D1 D2 : DataW Value) (F1 F2 : ByteArray → List Ver) (w : World) (h1 : Sp w g1 b1 n1 D1 F1) (h2 : Sp w g2 b2 n2 D2 F2) :
    Calls Try.prog 57 #[.map (some b1), .map (some b2), .func (.func 24) #[] #[]] w fun e w' => ∃ r, e = .returned (.bool r) ∧ (r = true ↔ ∀ s, F1 s = F2 s) ∧ Below w.heap.size w w' := by
  have l1 := h1.count
  have l2 := h2.count
  have hown := h1.map
  have H1 : Hid (Sp w g1 b1 n1 D1 F1) := h1
  have H2 : Hid (Sp w g2 b2 n2 D2 F2) := h2
  have HB1 : Hid (b1 < w.heap.size) := h1.map.lt
  clear h1 h2
  by_cases hsz : size D1 = size D2
  rotate_left
  · have hne : ¬ ((size D1 : Int) = (size D2 : Int)) := fun e => hsz (by exact_mod_cast e)
    have HR : Hid (¬ ∀ s, F1 s = F2 s) := fun hF => hsz (size_same H1.out.map H2.out.map (fun b => by rw [H1.out.has', H2.out.has', hF]))
    clear hsz hown
    go_enter Try.func57, Try.ntmps57
    go_wp2
    go_ret
    exact ⟨_, rfl, ⟨(fun h => by cases h), fun h => absurd h HR.out⟩, Below.refl _ _⟩
  have HSZ : Hid (size D1 = size D2) := hsz
  have hszi : (size D1 : Int) = (size D2 : Int) := by rw [hsz]
  rw [hszi] at l1
  clear hsz hszi
  go_enter Try.func57, Try.ntmps57
  go_wp2_with (at_range; refine wpList_range_own _ rfl _ 83 rfl 9 25 law9 Try.underlying83 Rv b1 n1 D1 rfl hown ?_; intro w0 hrg0 hg0 hs0)
  have HB0 : Hid (Below w.heap.size w w0) := (Below.refl _ _).grown hg0 (Nat.le_refl _) (by simp)
  clear hg0 hs0 hown l1 l2
  go_frame
  go_loopw [18] (fun _ wr => ∃ (left : Lit → Bool) (cnt : Nat), wr.ranges Try.prog 9 Rv b1 w.heap.size n1 D1 left cnt ∧ Hid (∀ b : Bs, has D1 (.string b) = true → left (.string b) = false → F1 ⟨b.toArray⟩ = F2 ⟨b.toArray⟩) ∧ Hid (Below w.heap.size w wr))
    (fun _ wr => wr.rangeLeft b1 w.heap.size)
  case atStart => exact ⟨_, _, hrg0, (fun b h1 h2 => by rw [h1] at h2; cases h2), HB0⟩
  case round =>
    obtain ⟨left, cnt, hrg, HM, HB⟩ := hrel
    go_wp2_with (at_next; refine wpList_next_ranges _ rfl _ rfl 9 law9 Rv (fun s : ByteArray => Value.string s) (fun v : Value => v) (fun key kl hk => by obtain ⟨s, rfl, _⟩ := WideMaps.string_of_keyOf Try.underlying9 hk; exact ⟨s, rfl⟩) (fun v y _ => ⟨v, rfl⟩) b1 w.heap.size n1 D1 left cnt rfl hrg ?_ ?_)
    · intro _ hl0
      go_wp2
      go_ret
      refine ⟨_, rfl, ⟨fun _ s => ?_, fun _ => rfl⟩, HB.out⟩
      have hall : ∀ b : Bs, has D1 (.string b) = true → F1 ⟨b.toArray⟩ = F2 ⟨b.toArray⟩ := fun b hb => HM.out b hb (hl0 _)
      have h12 : ∀ b : Bs, has D1 (.string b) = true → has D2 (.string b) = true := fun b hb => by
        have e := hall b hb
        rw [H1.out.has'] at hb
        rw [H2.out.has', ← e]
        exact hb
      have h21 := has_back H1.out.map H2.out.map HSZ.out h12
      have es : (⟨s.data.toList.toArray⟩ : ByteArray) = s := by simp
      cases hh : has D1 (.string s.data.toList) with
      | true => have := hall _ hh; rwa [es] at this
      | false =>
        have k1 : F1 s = [] := by
          have hk := H1.out.has' s.data.toList
          rw [hh, es] at hk
          by_cases e : F1 s = []
          · exact e
          · exact absurd (hk.2 e) (by simp)
        have k2 : F2 s = [] := by
          have hk := H2.out.has' s.data.toList
          rw [es] at hk
          by_cases e : F2 s = []
          · exact e
          · have := h21 _ (hk.2 e)
            rw [hh] at this
            cases this
        rw [k1, k2]
    · intro x c kl d ps w1 cnt1 hkey hlx hv hps hat hrg1 hlt hg1 hs1 hen
      obtain ⟨s, e1, rfl, hsz⟩ := WideMaps.string_of_keyOf Try.underlying9 hkey
      simp only [Value.string.injEq] at e1
      subst e1
      subst hv hps
      obtain ⟨u, hu, hou⟩ := H1.out.obj x
      rw [show D1.atKey (klit x) zobj = .held c from hat _] at hu
      simp only [DataW.held.injEq] at hu
      obtain ⟨a, k, c0, rfl⟩ := hou.isSlice
      subst hu
      have HB1 : Hid (Below w.heap.size w w1) := HB.out.grown hg1 HB.out.size (by simp)
      have hbx : Below w1.heap.size w1 (w1.alloc (.cells #[.slice a k c0] 25)) := (Below.refl _ _).alloc (Nat.le_refl _) _
      have HB2 : Hid (Below w.heap.size w (w1.alloc (.cells #[.slice a k c0] 25))) := HB1.out.trans (hbx.mono HB1.out.size)
      have HR2 : Hid ((w1.alloc (.cells #[.slice a k c0] 25)).ranges Try.prog 9 Rv b1 w.heap.size n1 D1 (fun z => left z && !z.sameKey (.string x.data.toList)) cnt1) := hrg1.alloc _
      have HX2 : Hid ((w1.alloc (.cells #[.slice a k c0] 25)).heap[w1.heap.size]? = some (.cells #[.slice a k c0] 25)) := heap_alloc_new w1 _
      have HMEM : Hid (has D1 (.string x.data.toList) = true) := ranges_has hrg hlx
      have HLT : Hid (cnt1 < cnt) := hlt
      have HRL : Hid (wr.rangeLeft b1 w.heap.size = cnt) := hrg.left_eq
      have HOU : Hid (Ob (w1.alloc (.cells #[.slice a k c0] 25)) (.slice a k c0) (F1 x)) := hou.later HB2.out
      obtain ⟨a2, k2, c2, hrun, hou2⟩ := (H2.out.later HB2.out).look_ok x hsz
      have HOV : Hid (Ob (w1.alloc (.cells #[.slice a k c0] 25)) (.slice a2 k2 c2) (F2 x)) := hou2
      clear hbx hg1 hrg1 hat hou hkey hrg0 hlx hrg hlt hs1 hou2 HB1
      have HH2 : Hid (has D2 (klit x) = true ↔ F2 x ≠ []) := H2.out.keys x
      have HH1 : Hid (F1 x ≠ []) := (H1.out.keys x).1 HMEM.out
      go_upto_region 6 with fail
      generalize hw2 : w1.alloc (.cells #[.slice a k c0] 25) = w2 at *
      clear hw2
      generalize w1.heap.size = p1 at *
      have HV3 : Hid ((w2.alloc (.cells #[.slice a2 k2 c2] 25)).heap[w2.heap.size]? = some (.cells #[.slice a2 k2 c2] 25)) := heap_alloc_new w2 _
      have hb3 : Below w2.heap.size w2 (w2.alloc (.cells #[.slice a2 k2 c2] 25)) := (Below.refl _ _).alloc (Nat.le_refl _) _
      have HB3 : Hid (Below w.heap.size w (w2.alloc (.cells #[.slice a2 k2 c2] 25))) := HB2.out.trans (hb3.mono HB2.out.size)
      have HX3 : Hid ((w2.alloc (.cells #[.slice a2 k2 c2] 25)).heap[p1]? = some (.cells #[.slice a k c0] 25)) := (hb3.block _ (Array.getElem?_eq_some_iff.1 HX2.out).1).trans HX2.out
      have HR3 : Hid ((w2.alloc (.cells #[.slice a2 k2 c2] 25)).ranges Try.prog 9 Rv b1 w.heap.size n1 D1 (fun z => left z && !z.sameKey (.string x.data.toList)) cnt1) := HR2.out.alloc _
      have HQ : Hid (Calls Try.prog 24 #[.agg #[.slice a k c0], .agg #[.slice a2 k2 c2]] (w2.alloc (.cells #[.slice a2 k2 c2] 25)) fun e w' => e = .returned (.bool (sameB (F1 x) (F2 x))) ∧ Below (w2.alloc (.cells #[.slice a2 k2 c2] 25)).heap.size (w2.alloc (.cells #[.slice a2 k2 c2] 25)) w') := same_any _ _ _ _ _ (HOU.out.later hb3) (HOV.out.later hb3)
      clear hb3 HOU HOV HB2 HR2 HX2
      cases hd : has D2 (klit x)
      · rw [hd] at hrun
        have HNO : Hid (¬ ∀ s, F1 s = F2 s) := fun h => by
          have h0 : F2 x = [] := by
            by_cases e : F2 x = []
            · exact e
            · have := HH2.out.2 e
              rw [hd] at this
              cases this
          exact HH1.out (by rw [h x, h0])
        clear hd
        go_wp2
        go_ret
        exact ⟨_, rfl, ⟨(fun h => by cases h), fun h => absurd h HNO.out⟩, HB3.out⟩
      · rw [hd] at hrun
        clear hd
        go_upto_region 7 with fail
        generalize hw3 : w2.alloc (.cells #[.slice a2 k2 c2] 25) = w3 at *
        clear hw3 hrun
        generalize w2.heap.size = p2 at *
        have x0 : w3.cell? ⟨p1, 0, none⟩ = some (.slice a k c0) := cell_of_heap HX3.out rfl
        have x1 : w3.cell? ⟨p2, 0, none⟩ = some (.slice a2 k2 c2) := cell_of_heap HV3.out rfl
        by_cases he : F1 x = F2 x
        · have hq := HQ.out
          rw [sameB_iff.2 he] at hq
          have HE : Hid (F1 x = F2 x) := he
          clear he
          go_wp2_with fail
          refine hq.mono ?_
          clear hq x0 x1
          rintro e w4 ⟨rfl, hb4⟩
          have HB4 : Hid (Below w.heap.size w w4) := HB3.out.trans (hb4.mono HB3.out.size)
          have HR4 : Hid (w4.ranges Try.prog 9 Rv b1 w.heap.size n1 D1 (fun z => left z && !z.sameKey (.string x.data.toList)) cnt1) := ranges_of HR3.out (hb4.block _ HR3.out.owns.lt) (hb4.block _ HR3.out.lt)
          have HM4 : Hid (∀ b : Bs, has D1 (.string b) = true → (fun z => left z && !z.sameKey (.string x.data.toList)) (.string b) = false → F1 ⟨b.toArray⟩ = F2 ⟨b.toArray⟩) := by
            intro b h1 h2
            by_cases e : b = x.data.toList
            · subst e
              have es : (⟨x.data.toList.toArray⟩ : ByteArray) = x := by simp
              rw [es]
              exact HE.out
            · have hk : Lit.sameKey (.string b) (.string x.data.toList) = false := sameKey_ne (by simpa using e)
              exact HM.out b h1 (by simpa [hk] using h2)
          clear hb4 HB3 HR3 HX3 HV3 HQ
          go_wp2
          go_roundw
          case rel => exact ⟨_, cnt1, HR4.out, HM4, HB4⟩
          case measure => rw [HR4.out.left_eq, HRL.out]; exact HLT.out
        · have hq := HQ.out
          rw [sameB_not he] at hq
          have HNO : Hid (¬ ∀ s, F1 s = F2 s) := fun h => he (h x)
          clear he
          go_wp2_with fail
          refine hq.mono ?_
          clear hq x0 x1
          rintro e w4 ⟨rfl, hb4⟩
          have HB4 : Hid (Below w.heap.size w w4) := HB3.out.trans (hb4.mono HB3.out.size)
          clear hb4 HB3 HR3 HX3 HV3 HQ
          go_wp2
          go_ret
          exact ⟨_, rfl, ⟨(fun h => by cases h), fun h => absurd h HNO.out⟩, HB4.out⟩
end Go.Proofs.Ytmahigfamgbhfaa
