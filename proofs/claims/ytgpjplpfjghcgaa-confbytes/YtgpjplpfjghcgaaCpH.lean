/- conf.Read. -/
import Derived.Test.YtgpjplpfjghcgaaCpG
import Derived.Test.YtgpjplpfjghcgaaCoJ
namespace Go.Proofs.Ytgpjplpfjghcgaa
open Go Go.RowKit
set_option linter.unusedVariables false
set_option linter.unusedSimpArgs false

/-- whether a right configuration stands next -/
theorem cfo_mono {w : World} {base b2 : Nat} {v : Value} {c : Cf} (h : Cfo w base v c) (hb : b2 ≤ base) : Cfo w b2 v c := by
  obtain ⟨va, vb, rfl, h1, h2, h3⟩ := h
  exact ⟨va, vb, rfl, owns_mono h1 hb, owns_mono h2 hb, h3⟩
def readOk (st : Option (List Nat)) : Bool := (rdL st).2.isSome && rightB (readC st)

set_option maxRecDepth 100000 in
set_option maxHeartbeats 4000000 in
theorem read_any (g : Nat) (st : Option (List Nat)) (w : World) (h : Rd w g st) :
    Calls Try.prog 23 #[.pointer (some ⟨g, 0, none⟩)] w fun e w' => (∃ v, e = .returned (.tuple #[v, .bool (readOk st)]) ∧ Cfo w' w.heap.size v (if readOk st then readC st else zeroC)) ∧ Rd w' g (rdL st).2 ∧ Only g w w' := by
  obtain ⟨k, hk⟩ : ∃ k, k = readOk st := ⟨_, rfl⟩
  obtain ⟨r, hr⟩ : ∃ r, r = (if readOk st then readC st else zeroC) := ⟨_, rfl⟩
  rw [← hr, ← hk]
  have HR : Hid (k = readOk st ∧ r = (if readOk st then readC st else zeroC)) := ⟨hk, hr⟩
  clear hr hk
  have HG : Hid (g < w.heap.size) := h.lt
  have hb0 : Below w.heap.size w (w.alloc (.cells #[.int .u64 0, .int .i64 0, .slice none 0 0, .slice none 0 0, .int .i64 0] 29)) := (Below.refl _ _).alloc (Nat.le_refl _) _
  have HZ0 : Hid ((w.alloc (.cells #[.int .u64 0, .int .i64 0, .slice none 0 0, .slice none 0 0, .int .i64 0] 29)).heap[w.heap.size]? = some (.cells #[.int .u64 0, .int .i64 0, .slice none 0 0, .slice none 0 0, .int .i64 0] 29)) := heap_alloc_new _ _
  have HD0 : Hid (Rd (w.alloc (.cells #[.int .u64 0, .int .i64 0, .slice none 0 0, .slice none 0 0, .int .i64 0] 29)) g st) := h.later hb0
  have HO0 : Hid (Only g w (w.alloc (.cells #[.int .u64 0, .int .i64 0, .slice none 0 0, .slice none 0 0, .int .i64 0] 29))) := (Only.refl g w).then hb0
  have hcall := readConf_any g st _ HD0.out
  clear hb0 h
  generalize hW : w.alloc (.cells #[.int .u64 0, .int .i64 0, .slice none 0 0, .slice none 0 0, .int .i64 0] 29) = w0 at *
  go_enter Try.func23, Try.ntmps23
  go_wp2_with fail
  refine hcall.mono ?_
  clear hcall hW
  rintro e w1 ⟨⟨v1, rfl, hv1⟩, hd1, ho1⟩
  have HO1 : Hid (Only g w w1) := HO0.out.trans ho1
  have HZ1 : Hid (w1.heap[w.heap.size]? = some (.cells #[.int .u64 0, .int .i64 0, .slice none 0 0, .slice none 0 0, .int .i64 0] 29)) := heap_grown HZ0.out ho1 HD0.out.tag (by decide)
  have HV1 : Hid (Cfo w1 w.heap.size v1 (readC st)) := cfo_mono hv1 HO0.out.size
  have hlt := (Array.getElem?_eq_some_iff.1 HZ1.out).1
  generalize hC : readC st = C at *
  have HC : Hid (readC st = C) := hC
  obtain ⟨va, vb, rfl, hva, hvb, hl9⟩ := HV1.out
  obtain ⟨ep, sh, l, le⟩ := C
  simp only at hva hvb hl9
  obtain ⟨a, m, c, rfl⟩ := owns_slice hva
  obtain ⟨b, d, f, rfl⟩ := owns_slice hvb
  have hb3 : Below w1.heap.size w1 (w1.alloc (.cells #[.int .u64 0, .int .i64 0, .slice none 0 0, .slice none 0 0, .int .i64 0] 29)) := (Below.refl _ _).alloc (Nat.le_refl _) _
  have hrr : Rr w (w1.alloc (.cells #[.int .u64 0, .int .i64 0, .slice none 0 0, .slice none 0 0, .int .i64 0] 29)) g w1.heap.size (rdL st).2 #[.int .u64 0, .int .i64 0, .slice none 0 0, .slice none 0 0, .int .i64 0] (.slice a m c) (l.map mi) (.slice b d f) (l.map mb) :=
    ⟨hd1.later hb3, HO1.out.then (hb3.mono HO1.out.size), HG.out, hlt, heap_kept HZ1.out hb3, heap_alloc_new _ _, hva.later hb3, hvb.later hb3⟩
  clear hC hva hvb hv1 hd1 ho1 HV1 HO0 HZ0 HD0 HO1 HZ1 hb3
  generalize hw3 : w1.alloc (.cells #[.int .u64 0, .int .i64 0, .slice none 0 0, .slice none 0 0, .int .i64 0] 29) = w3 at *
  generalize hp : w1.heap.size = p at *
  have HX : Hid (Rr w w3 g p (rdL st).2 #[.int .u64 0, .int .i64 0, .slice none 0 0, .slice none 0 0, .int .i64 0] (.slice a m c) (l.map mi) (.slice b d f) (l.map mb)) := hrr
  clear hrr hlt
  obtain ⟨z0, z1, z2, z3, z4⟩ := five_cells HX.out.box
  obtain ⟨g0, g1, g2, g3, g4⟩ := five_frozen HX.out.box
  go_upto_region 2 with fail
  clear z0 z1 z2 z3 z4 g0 g1 g2 g3 g4 hw3 hp
  have HX4 : Hid (Rr w (put5 w3 p (.int .u64 (ep : Nat)) (.int .i64 sh) (.slice a m c) (.slice b d f) (.int .i64 le)) g p (rdL st).2 (carr ep sh (.slice a m c) (.slice b d f) le) (.slice a m c) (l.map mi) (.slice b d f) (l.map mb)) := ((((HX.out.stored (i := 0) (.int .u64 (ep : Nat))).stored (i := 1) (.int .i64 sh)).stored (i := 2) (.slice a m c)).stored (i := 3) (.slice b d f)).stored (i := 4) (.int .i64 le)
  show Code.wp _ _ _ _ (put5 w3 p (.int .u64 (ep : Nat)) (.int .i64 sh) (.slice a m c) (.slice b d f) (.int .i64 le))
  generalize put5 w3 p (.int .u64 (ep : Nat)) (.int .i64 sh) (.slice a m c) (.slice b d f) (.int .i64 le) = w4 at *
  clear HX
  have hbad := bad_any g _ _ HX4.out.rd
  have hright := right_any _ _ w4 (Cfo.read ⟨_, _, rfl, HX4.out.oa, HX4.out.ob, hl9⟩ : Cfr w4 (.agg (carr ep sh (.slice a m c) (.slice b d f) le)) ⟨ep, sh, l, le⟩)
  obtain ⟨z0, z1, z2, z3, z4⟩ := five_cells HX4.out.box
  have HL : Hid (l.length ≤ 1000) := hl9
  clear hl9
  cases hS : (rdL st).2 with
  | none =>
    have hk : k = false ∧ r = zeroC := by rw [HR.out.1, HR.out.2]; simp [readOk, hS]
    obtain ⟨rfl, rfl⟩ := hk
    rw [hS] at hbad
    rw [hS] at HX4
    go_wp2_with fail
    refine hbad.mono ?_
    rintro e w9 ⟨rfl, h9⟩
    rw [h9]
    clear h9 w9
    clear hbad hright z0 z1 z2 z3 z4
    have HX5 := HX4
    obtain ⟨z0, z1, z2, z3, z4⟩ := five_cells HX5.out.box
    obtain ⟨y0, y1, y2, y3, y4⟩ := five_cells HX5.out.zero
    obtain ⟨f0, f1, f2, f3, f4⟩ := five_frozen HX5.out.zero
    have HP : Hid ((put5 w4 w.heap.size (.int .u64 0) (.int .i64 0) (.slice none 0 0) (.slice none 0 0) (.int .i64 0)).heap[w.heap.size]? = some (.cells #[.int .u64 0, .int .i64 0, (.slice none 0 0), (.slice none 0 0), .int .i64 0] 29)) := five_put HX5.out.zero
    have hbb : Below w.heap.size w4 (put5 w4 w.heap.size (.int .u64 0) (.int .i64 0) (.slice none 0 0) (.slice none 0 0) (.int .i64 0)) := below_put5 (Below.refl _ _) (Nat.le_refl _) _ _ _ _ _
    have HE : Hid (Cfo (put5 w4 w.heap.size (.int .u64 0) (.int .i64 0) (.slice none 0 0) (.slice none 0 0) (.int .i64 0)) w.heap.size (.agg #[.int .u64 0, .int .i64 0, (.slice none 0 0), (.slice none 0 0), .int .i64 0]) zeroC ∧ Rd (put5 w4 w.heap.size (.int .u64 0) (.int .i64 0) (.slice none 0 0) (.slice none 0 0) (.int .i64 0)) g none ∧ Only g w (put5 w4 w.heap.size (.int .u64 0) (.int .i64 0) (.slice none 0 0) (.slice none 0 0) (.int .i64 0))) := by
      refine ⟨⟨_, _, rfl, OwnV.nil _ _ _, OwnV.nil _ _ _, by simp [zeroC]⟩, HX5.out.rd.below hbb HG.out, HX5.out.only.then hbb⟩
    clear hbb HX5
    go_wp2
    clear z0 z1 z2 z3 z4 y0 y1 y2 y3 y4 f0 f1 f2 f3 f4
    unfold put5 at HP HE
    generalize (((((w4.setCell ⟨w.heap.size, 0, none⟩ (.int .u64 0)).setCell ⟨w.heap.size, 1, none⟩ (.int .i64 0)).setCell ⟨w.heap.size, 2, none⟩ (.slice none 0 0)).setCell ⟨w.heap.size, 3, none⟩ (.slice none 0 0)).setCell ⟨w.heap.size, 4, none⟩ (.int .i64 0)) = wz at *
    obtain ⟨z0, z1, z2, z3, z4⟩ := five_cells HP.out
    refine bodyPost_ret (v := .tuple #[.agg #[.int .u64 0, .int .i64 0, (.slice none 0 0), (.slice none 0 0), .int .i64 0], .bool false]) (by simp [results, Try.results23, go_sem, z0, z1, z2, z3, z4]) rfl ?_
    exact ⟨⟨_, rfl, HE.out.1⟩, by rw [hS]; exact HE.out.2⟩
  | some bs =>
    rw [hS] at hbad
    rw [hS] at HX4
    go_wp2_with fail
    refine hbad.mono ?_
    rintro e w9 ⟨rfl, h9⟩
    rw [h9]
    clear h9 w9
    clear hbad
    go_wp2_with fail
    refine hright.mono ?_
    clear hright z0 z1 z2 z3 z4
    rintro e w5 ⟨rfl, hb5⟩
    have HX5 : Hid (Rr w w5 g p (some bs) (carr ep sh (.slice a m c) (.slice b d f) le) (.slice a m c) (l.map mi) (.slice b d f) (l.map mb)) := HX4.out.later hb5
    clear hb5 HX4
    cases hrt : rightB ⟨ep, sh, l, le⟩ with
    | false =>
      have hk : k = false ∧ r = zeroC := by rw [HR.out.1, HR.out.2]; simp [readOk, hS, HC.out, hrt]
      obtain ⟨rfl, rfl⟩ := hk
      obtain ⟨z0, z1, z2, z3, z4⟩ := five_cells HX5.out.box
      obtain ⟨y0, y1, y2, y3, y4⟩ := five_cells HX5.out.zero
      obtain ⟨f0, f1, f2, f3, f4⟩ := five_frozen HX5.out.zero
      have HP : Hid ((put5 w5 w.heap.size (.int .u64 0) (.int .i64 0) (.slice none 0 0) (.slice none 0 0) (.int .i64 0)).heap[w.heap.size]? = some (.cells #[.int .u64 0, .int .i64 0, (.slice none 0 0), (.slice none 0 0), .int .i64 0] 29)) := five_put HX5.out.zero
      have hbb : Below w.heap.size w5 (put5 w5 w.heap.size (.int .u64 0) (.int .i64 0) (.slice none 0 0) (.slice none 0 0) (.int .i64 0)) := below_put5 (Below.refl _ _) (Nat.le_refl _) _ _ _ _ _
      have HE : Hid (Cfo (put5 w5 w.heap.size (.int .u64 0) (.int .i64 0) (.slice none 0 0) (.slice none 0 0) (.int .i64 0)) w.heap.size (.agg #[.int .u64 0, .int .i64 0, (.slice none 0 0), (.slice none 0 0), .int .i64 0]) zeroC ∧ Rd (put5 w5 w.heap.size (.int .u64 0) (.int .i64 0) (.slice none 0 0) (.slice none 0 0) (.int .i64 0)) g (some bs) ∧ Only g w (put5 w5 w.heap.size (.int .u64 0) (.int .i64 0) (.slice none 0 0) (.slice none 0 0) (.int .i64 0))) := by
        refine ⟨⟨_, _, rfl, OwnV.nil _ _ _, OwnV.nil _ _ _, by simp [zeroC]⟩, HX5.out.rd.below hbb HG.out, HX5.out.only.then hbb⟩
      clear hbb HX5
      go_wp2
      clear z0 z1 z2 z3 z4 y0 y1 y2 y3 y4 f0 f1 f2 f3 f4
      unfold put5 at HP HE
      generalize (((((w5.setCell ⟨w.heap.size, 0, none⟩ (.int .u64 0)).setCell ⟨w.heap.size, 1, none⟩ (.int .i64 0)).setCell ⟨w.heap.size, 2, none⟩ (.slice none 0 0)).setCell ⟨w.heap.size, 3, none⟩ (.slice none 0 0)).setCell ⟨w.heap.size, 4, none⟩ (.int .i64 0)) = wz at *
      obtain ⟨z0, z1, z2, z3, z4⟩ := five_cells HP.out
      refine bodyPost_ret (v := .tuple #[.agg #[.int .u64 0, .int .i64 0, (.slice none 0 0), (.slice none 0 0), .int .i64 0], .bool false]) (by simp [results, Try.results23, go_sem, z0, z1, z2, z3, z4]) rfl ?_
      exact ⟨⟨_, rfl, HE.out.1⟩, by rw [hS]; exact HE.out.2⟩
    | true =>
      have hk : k = true ∧ r = ⟨ep, sh, l, le⟩ := by rw [HR.out.1, HR.out.2]; simp [readOk, hS, HC.out, hrt]
      obtain ⟨rfl, rfl⟩ := hk
      obtain ⟨z0, z1, z2, z3, z4⟩ := five_cells HX5.out.box
      obtain ⟨y0, y1, y2, y3, y4⟩ := five_cells HX5.out.zero
      obtain ⟨f0, f1, f2, f3, f4⟩ := five_frozen HX5.out.zero
      have HP : Hid ((put5 w5 w.heap.size (.int .u64 (ep : Nat)) (.int .i64 sh) (.slice a m c) (.slice b d f) (.int .i64 le)).heap[w.heap.size]? = some (.cells #[.int .u64 (ep : Nat), .int .i64 sh, (.slice a m c), (.slice b d f), .int .i64 le] 29)) := five_put HX5.out.zero
      have hbb : Below w.heap.size w5 (put5 w5 w.heap.size (.int .u64 (ep : Nat)) (.int .i64 sh) (.slice a m c) (.slice b d f) (.int .i64 le)) := below_put5 (Below.refl _ _) (Nat.le_refl _) _ _ _ _ _
      have HE : Hid (Cfo (put5 w5 w.heap.size (.int .u64 (ep : Nat)) (.int .i64 sh) (.slice a m c) (.slice b d f) (.int .i64 le)) w.heap.size (.agg #[.int .u64 (ep : Nat), .int .i64 sh, (.slice a m c), (.slice b d f), .int .i64 le]) ⟨ep, sh, l, le⟩ ∧ Rd (put5 w5 w.heap.size (.int .u64 (ep : Nat)) (.int .i64 sh) (.slice a m c) (.slice b d f) (.int .i64 le)) g (some bs) ∧ Only g w (put5 w5 w.heap.size (.int .u64 (ep : Nat)) (.int .i64 sh) (.slice a m c) (.slice b d f) (.int .i64 le))) := by
        refine ⟨⟨_, _, rfl, own_same HX5.out.oa (fun k _ ht => put5_other _ _ _ _ _ (tag_ne HX5.out.zero (by decide) ht)), own_same HX5.out.ob (fun k _ ht => put5_other _ _ _ _ _ (tag_ne HX5.out.zero (by decide) ht)), HL.out⟩, HX5.out.rd.below hbb HG.out, HX5.out.only.then hbb⟩
      clear hbb HX5
      go_wp2
      clear z0 z1 z2 z3 z4 y0 y1 y2 y3 y4 f0 f1 f2 f3 f4
      unfold put5 at HP HE
      generalize (((((w5.setCell ⟨w.heap.size, 0, none⟩ (.int .u64 (ep : Nat))).setCell ⟨w.heap.size, 1, none⟩ (.int .i64 sh)).setCell ⟨w.heap.size, 2, none⟩ (.slice a m c)).setCell ⟨w.heap.size, 3, none⟩ (.slice b d f)).setCell ⟨w.heap.size, 4, none⟩ (.int .i64 le)) = wz at *
      obtain ⟨z0, z1, z2, z3, z4⟩ := five_cells HP.out
      refine bodyPost_ret (v := .tuple #[.agg #[.int .u64 (ep : Nat), .int .i64 sh, (.slice a m c), (.slice b d f), .int .i64 le], .bool true]) (by simp [results, Try.results23, go_sem, z0, z1, z2, z3, z4]) rfl ?_
      exact ⟨⟨_, rfl, HE.out.1⟩, by rw [hS]; exact HE.out.2⟩
end Go.Proofs.Ytgpjplpfjghcgaa
