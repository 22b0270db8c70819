/- The laws' own wrapping, path and example: contracts. -/
import Derived.Test.YtiemgdclhjdmlaaDoorFaI
namespace Go.Proofs.YtiemgdclhjdmlaaDoor
open Go.RowKit Go.Extern.Stop Go.Stop Go.Extern

theorem rev_take (ps : List ByteArray) (k : Nat) (h : k < ps.length) : (ps.take (k + 1)).reverse = ps[k] :: (ps.take k).reverse := by
  rw [List.take_succ_eq_append_getElem h]; simp

set_option maxRecDepth 100000 in
set_option maxHeartbeats 1000000 in
theorem wrap_bad (g len cap : Nat) (ps : List ByteArray) (n : Int) (w : World) (hn : n ≠ 0) (hl : ps.length = len) (h0 : 0 < len) (hm : cap ≤ maxLen) (hlc : len ≤ cap)
    (hc : ∀ j x, ps[j]? = some x → w.cell? ⟨g, j, none⟩ = some (.string x)) :
    Calls Tryd.prog 14 #[.slice (some ⟨g, 0, none⟩) len cap, .int .i64 n] w fun e w' => ∃ v, e = .returned v ∧ Errv w' n ps.reverse v ∧ Below w.heap.size w w' := by
  unfold maxLen at hm
  have h00 : 0 < ps.length := by omega
  have hc0 : w.cell? ⟨g, 0, none⟩ = some (.string ps[0]) := hc 0 _ (List.getElem?_eq_getElem h00)
  have HC : Hid (∀ j x, ps[j]? = some x → w.cell? ⟨g, j, none⟩ = some (.string x)) := hc
  obtain ⟨x, HX⟩ : ∃ x, Hid (ps[0] = x) := ⟨ps[0], rfl⟩
  rw [HX.out] at hc0
  have HR : Hid ((ps.take (0 + 1)).reverse = [x]) := by unfold Hid; rw [rev_take ps 0 h00, HX.out]; simp
  clear hc
  go_enter Tryd.func14, Tryd.ntmps14
  go_wp2_with fail
  refine (new_bad x n w hn).mono ?_
  rintro e w1 ⟨v1, rfl, hv1, hb1⟩
  have HV1 : Hid (Errv w1 n (ps.take (0 + 1)).reverse v1) := by unfold Hid; rw [HR.out]; exact hv1
  have HB1 : Hid (Below w.heap.size w w1) := hb1
  clear hv1 hb1 hc0
  by_cases hcap : cap = 1
  · subst hcap
    have hl1 : len = 1 := by omega
    subst hl1
    have hv' := HV1.out
    rw [List.take_of_length_le (by omega)] at hv'
    have HV : Hid (Errv w1 n ps.reverse v1) := hv'
    clear hv' HV1
    go_wp2
    refine wp_loop_rounds 1 ?_
    rw [rounds_succ]
    go_wp2
    go_ret
    exact ⟨_, rfl, HV.out, HB1.out⟩
  go_wp2_with fail
  go_loopw [5, 16] (fun v i wr => ∃ (k : Nat), k < len ∧ i = .int .i64 k ∧ Hid (Errv wr n (ps.take (k + 1)).reverse v) ∧ Hid (Below w.heap.size w wr)) (fun v i wr => len - (intOf i).toNat)
  case atStart => exact ⟨0, h0, rfl, HV1, HB1⟩
  case round =>
    obtain ⟨k, hk, rfl, hv, hB⟩ := hrel
    by_cases h1 : k + 1 < len
    · have hkl : k + 1 < ps.length := by omega
      have hc1 : wr.cell? ⟨g, 1 + k, none⟩ = some (.string ps[k + 1]) := by rw [Nat.add_comm 1 k]; exact cell_later hB.out (HC.out (k + 1) _ (List.getElem?_eq_getElem hkl))
      have HR2 : Hid ((ps.take (k + 1 + 1)).reverse = ps[k + 1] :: (ps.take (k + 1)).reverse) := rev_take ps (k + 1) hkl
      generalize ps[k + 1] = y at hc1 HR2
      have hk1 : (k : Int) < (len : Int) - 1 := by omega
      go_wp2_with fail
      refine (in_bad y n (ps.take (k + 1)).reverse _ wr hv.out).mono ?_
      rintro e w2 ⟨v2, rfl, hv2, hb2⟩
      have HV2 : Hid (Errv w2 n (ps.take (k + 1 + 1)).reverse v2) := by unfold Hid; rw [HR2.out]; exact hv2
      have HB2 : Hid (Below w.heap.size w w2) := hB.out.trans (hb2.mono hB.out.size)
      clear hv2 hb2 hc1
      go_wp2
      go_roundw
      case rel => exact ⟨k + 1, by omega, by go_num, HV2, HB2⟩
      case measure => simp [intOf]; omega
    · have hk2 : k + 1 = len := by omega
      have hk1 : ¬ (k : Int) < (len : Int) - 1 := by omega
      have hv' := hv.out
      rw [hk2, ← hl, List.take_length] at hv'
      have HV := (show Hid _ from hv')
      clear hv' hv
      go_wp2
      go_ret
      exact ⟨_, rfl, HV.out, hB.out⟩

set_option maxRecDepth 100000 in
set_option maxHeartbeats 1000000 in
theorem wrap_ok (g len cap : Nat) (ps : List ByteArray) (w : World) (hl : ps.length = len) (h0 : 0 < len) (hm : cap ≤ maxLen) (hlc : len ≤ cap)
    (hc : ∀ j x, ps[j]? = some x → w.cell? ⟨g, j, none⟩ = some (.string x)) :
    Calls Tryd.prog 14 #[.slice (some ⟨g, 0, none⟩) len cap, .int .i64 0] w fun e w' => e = .returned .nilIface ∧ w' = w := by
  unfold maxLen at hm
  have h00 : 0 < ps.length := by omega
  have hc0 : w.cell? ⟨g, 0, none⟩ = some (.string ps[0]) := hc 0 _ (List.getElem?_eq_getElem h00)
  have HC : Hid (∀ j x, ps[j]? = some x → w.cell? ⟨g, j, none⟩ = some (.string x)) := hc
  generalize ps[0] = x at hc0
  clear hc
  go_enter Tryd.func14, Tryd.ntmps14
  go_wp2_with fail
  refine (new_ok x w).mono ?_
  rintro e w1 ⟨rfl, hw⟩
  subst w1
  by_cases hcap : cap = 1
  · subst hcap
    have hl1 : len = 1 := by omega
    subst hl1
    go_wp2
    refine wp_loop_rounds 1 ?_
    rw [rounds_succ]
    go_wp2
    go_ret
    exact ⟨rfl, rfl⟩
  go_wp2_with fail
  go_loop [5, 16] (fun v i => ∃ (k : Nat), k < len ∧ i = .int .i64 k ∧ v = .nilIface) (fun v i => len - (intOf i).toNat)
  case atStart => exact ⟨0, h0, rfl, rfl⟩
  case round =>
    obtain ⟨k, hk, rfl, rfl⟩ := hrel
    by_cases h1 : k + 1 < len
    · have hkl : k + 1 < ps.length := by omega
      have hc1 : w.cell? ⟨g, 1 + k, none⟩ = some (.string ps[k + 1]) := by rw [Nat.add_comm 1 k]; exact HC.out (k + 1) _ (List.getElem?_eq_getElem hkl)
      generalize ps[k + 1] = y at hc1
      have hk1 : (k : Int) < (len : Int) - 1 := by omega
      go_wp2_with fail
      refine (in_ok y w).mono ?_
      rintro e w2 ⟨rfl, hw⟩
      subst w2
      go_wp2
      go_round
      case rel => exact ⟨k + 1, by omega, by go_num, rfl⟩
      case measure => simp [intOf]; omega
    · have hk1 : ¬ (k : Int) < (len : Int) - 1 := by omega
      go_wp2
      go_ret
      exact ⟨rfl, rfl⟩

set_option maxRecDepth 100000 in
theorem awake3_any (w : World) (hg : G w) :
    Calls Tryd.prog 13 #[] w fun e w' => e = .returned (.bool true) ∧ Below w.heap.size w w' := by
  have HG : Hid (G w) := hg
  clear hg
  have hp : path [⟨#[97]⟩, ⟨#[98]⟩] = ⟨#[97, 62, 98]⟩ := by rfl
  go_enter Tryd.func13, Tryd.ntmps13
  go_wp2_with fail
  refine (new_bad ⟨#[98]⟩ 3 w (by decide)).mono ?_
  rintro e w1 ⟨v1, rfl, hv1, hb1⟩
  have HV1 : Hid (Errv w1 3 [⟨#[98]⟩] v1) := hv1
  have HB1 : Hid (Below w.heap.size w w1) := hb1
  clear hv1 hb1
  go_wp2_with fail
  refine (in_bad ⟨#[97]⟩ 3 _ _ w1 HV1.out).mono ?_
  rintro e w2 ⟨v2, rfl, hv2, hb2⟩
  have HV2 : Hid (Errv w2 3 [⟨#[97]⟩, ⟨#[98]⟩] v2) := hv2
  have HB2 : Hid (Below w.heap.size w w2) := HB1.out.trans (hb2.mono HB1.out.size)
  clear hv2 hb2
  go_wp2_with fail
  refine (code_any 3 _ _ w2 (HG.out.later HB2.out) HV2.out).mono ?_
  rintro e w3 ⟨rfl, hb3⟩
  have HB3 : Hid (Below w.heap.size w w3) := HB2.out.trans (hb3.mono HB2.out.size)
  have HV3 : Hid (Errv w3 3 [⟨#[97]⟩, ⟨#[98]⟩] v2) := HV2.out.later hb3
  clear hb3
  go_wp2_with fail
  refine (path_any 3 _ _ w3 (HG.out.later HB3.out) HV3.out (by decide)).mono ?_
  rintro e w4 ⟨rfl, hb4⟩
  have HB4 : Hid (Below w.heap.size w w4) := HB3.out.trans (hb4.mono HB3.out.size)
  clear hb4
  rw [hp]
  clear hp
  go_wp2
  go_ret
  exact ⟨rfl, HB4.out⟩
end Go.Proofs.YtiemgdclhjdmlaaDoor
