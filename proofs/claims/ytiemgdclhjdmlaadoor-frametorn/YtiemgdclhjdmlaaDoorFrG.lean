/- The laws' own reading of all records, and whether two rows of records are the same: contracts. -/
import Derived.Test.YtiemgdclhjdmlaaDoorFrF
namespace Go.Proofs.YtiemgdclhjdmlaaDoor
open Go.RowKit
set_option linter.unusedVariables false

set_option maxRecDepth 100000 in
set_option maxHeartbeats 2000000 in
theorem refall_any (a : Option Addr) (n cap : Nat) (bs : List Nat) (w : World) (hr : Row w a n bs) (hn : n ≤ 100000) (hnc : n ≤ cap) (hmc : cap ≤ maxLen) :
    Calls Tryd.prog 30 #[.slice a n cap] w fun e w' => ∃ v k, e = .returned (.tuple #[v, .int .i64 (Fr.ends bs k : Nat), .int .i64 (Fr.code (bs.drop (Fr.ends bs k)) : Nat)]) ∧ Fr.Stop bs k ∧ Recs w' v (Fr.recs bs k) ∧ Below w.heap.size w w' := by
  have HR : Hid (Row w a n bs) := hr
  have hl := hr.1
  have HM : Hid (n ≤ cap ∧ cap ≤ maxLen) := ⟨hnc, hmc⟩
  clear hr hnc hmc
  go_enter Tryd.func30, Tryd.ntmps30
  go_wp2
  go_loopw [5, 6] (fun rv ev wr => ∃ k e : Nat, Hid (Fr.ends bs k = e) ∧ e ≤ n ∧ ev = .int .i64 e ∧ Hid (Fr.Good bs k) ∧ (∃ vs, OwnV wr w.heap.size 42 rv vs ∧ vs.length = k ∧ Hid (∀ (i : Nat) x r, vs[i]? = some x → (Fr.recs bs k)[i]? = some r → Rec1 w x r)) ∧ Hid (Below w.heap.size w wr)) (fun rv ev wr => n - (intOf ev).toNat)
  case atStart => exact ⟨0, 0, rfl, Nat.zero_le _, rfl, fun j hj => by omega, ⟨[], OwnV.nil _ _ _, rfl, fun i x r hx => by simp at hx⟩, Below.refl _ _⟩
  case round =>
    obtain ⟨k, e, HE, hen, rfl, HGood, ⟨vs, hov, hlen, HRS⟩, hB⟩ := hrel
    obtain ⟨c, HC⟩ : ∃ c, Hid (Fr.code (bs.drop e) = c) := ⟨Fr.code (bs.drop e), rfl⟩
    have HOV : Hid (OwnV wr w.heap.size 42 _ vs) := hov
    clear hov
    by_cases hc0 : c = 0
    · subst hc0
      have hsz := Fr.code_size _ HC.out
      rw [List.length_drop] at hsz
      obtain ⟨m, hm⟩ : ∃ m, Fr.num (bs.drop e) = m := ⟨_, rfl⟩
      rw [hm] at hsz
      have hsz1 : 7 + m ≤ n - e := by omega
      have HMM : Hid (Fr.num (bs.drop e) = m) := hm
      have hk : 8 * k ≤ n := by
        have := Fr.ends_le bs k HGood.out
        omega
      clear hsz hm
      go_wp2_with fail
      refine (refnext_good a n cap bs e w wr HR.out hB.out HM.out.1 HM.out.2 hen HC.out).mono ?_
      rintro e1 w1 ⟨x1, c1, rfl, hr1, hb1⟩
      rw [HMM.out] at hr1 ⊢
      have hov := HOV.out.later hb1
      have HB1 : Hid (Below w.heap.size w w1) := hB.out.trans (hb1.mono hB.out.size)
      have HV1 : Hid (Rec1 w (.slice x1 m c1) (Fr.rec (bs.drop e))) := ⟨_, _, _, rfl, hr1⟩
      have hov1 := hov.alloc (.cells #[.slice x1 m c1] 42)
      have hszw := HB1.out.size
      clear hr1 hb1 hov HOV
      go_wp2_with (at_builtin; refine wp_append_one 49 42 _ 24 Tryd.underlying49 Try.info42 rfl rfl _ _ rfl w.heap.size _ _ rfl hov1 _ _ (.slice x1 m c1) rfl (by simp) rfl (by rw [hlen]; omega) (by rw [hlen]; omega) (by simp; omega) ?_; intro v2 w2 ho2 hb2)
      have HB2 : Hid (Below w.heap.size w w2) := (HB1.out.alloc hszw _).trans hb2
      have HRS2 : Hid (∀ (i : Nat) x r, (vs ++ [.slice x1 m c1])[i]? = some x → (Fr.recs bs (k + 1))[i]? = some r → Rec1 w x r) := by
        intro i x r hx hr
        simp only [Fr.recs] at hr
        rw [HE.out] at hr
        rcases snoc_at hx with ⟨hi, hx1⟩ | ⟨hi, rfl⟩
        · rcases snoc_at hr with ⟨hj, hr1⟩ | ⟨hj, _⟩
          · exact HRS.out i x r hx1 hr1
          · rw [Fr.recs_length] at hj; omega
        · rcases snoc_at hr with ⟨hj, _⟩ | ⟨hj, rfl⟩
          · rw [Fr.recs_length] at hj; omega
          · exact HV1.out
      have HE2 : Hid (Fr.ends bs (k + 1) = e + (7 + m)) := by unfold Hid; simp only [Fr.ends]; rw [HE.out, HMM.out]
      have HG2 : Hid (Fr.Good bs (k + 1)) := Good.next HGood.out (by rw [HE.out]; exact HC.out)
      clear hb2 hov1 HRS
      refine ⟨⟨k + 1, e + (7 + m), HE2, by omega, by go_num, HG2, ⟨_, ho2, by simp [hlen], HRS2⟩, HB2⟩, ?_⟩
      simp [intOf]
      omega
    · have hci : ((c : Int) == 0) = false := by simp; omega
      have HCC : Hid (Fr.code (bs.drop e) ≠ 0) := by unfold Hid; rw [HC.out]; exact hc0
      have HST : Hid (Fr.Stop bs k) := ⟨HGood.out, by rw [HE.out]; exact HCC.out⟩
      go_wp2_with fail
      refine (refnext_bad a n cap bs e wr (HR.out.later hB.out) HM.out.1 HM.out.2 hen HCC.out).mono ?_
      rw [HC.out]
      rintro e1 w1 ⟨rfl, hb1⟩
      have HB1 : Hid (Below w.heap.size w w1) := hB.out.trans (hb1.mono hB.out.size)
      have HR1 : Hid (Recs w1 _ (Fr.recs bs k)) := ⟨_, vs, HOV.out.later hb1, by rw [hlen, Fr.recs_length], fun i x r hx hr => (HRS.out i x r hx hr).later HB1.out⟩
      clear hb1 HOV
      go_wp2
      go_ret3
      refine ⟨_, k, ?_, HST.out, HR1.out, HB1.out⟩
      rw [HE.out, HC.out]
      rfl

theorem refopen_bad (a : Option Addr) (n cap : Nat) (bs : List Nat) (w : World) (hr : Row w a n bs) (hnc : n ≤ cap) (hmc : cap ≤ maxLen) (h : Fr.ocode bs ≠ 0) :
    Calls Tryd.prog 31 #[.slice a n cap] w fun e w' => e = .returned (.tuple #[.slice none 0 0, .int .i64 (Fr.ocode bs : Nat)]) ∧ Below w.heap.size w w' := by
  have HR : Hid (Row w a n bs) := hr
  have hl := hr.1
  have HM : Hid (n ≤ cap ∧ cap ≤ maxLen) := ⟨hnc, hmc⟩
  have hm1 : n ≤ maxLen := by omega
  unfold maxLen at hm1
  by_cases h0 : Fr.code bs ≠ 0
  · have e : Fr.ocode bs = Fr.code bs := by unfold Fr.ocode; rw [if_pos h0]
    obtain ⟨c, hc⟩ : ∃ c, Fr.code bs = c := ⟨_, rfl⟩
    rw [e, hc]
    rw [hc] at h0
    have hci : ((c : Int) == 0) = false := by simp; omega
    have H0 : Hid (Fr.code (bs.drop 0) ≠ 0) := by unfold Hid; rw [List.drop_zero, hc]; exact h0
    have HC : Hid (Fr.code (bs.drop 0) = c) := by unfold Hid; rw [List.drop_zero]; exact hc
    clear hr hnc hmc h hc e
    go_enter Tryd.func31, Tryd.ntmps31
    go_wp2_with fail
    refine (refnext_bad a n cap bs 0 w HR.out HM.out.1 HM.out.2 (Nat.zero_le _) H0.out).mono ?_
    rw [HC.out]
    rintro e1 w1 ⟨rfl, hb1⟩
    have HB1 : Hid (Below w.heap.size w w1) := hb1
    clear hb1
    go_wp2
    go_ret2
    exact ⟨rfl, HB1.out⟩
  · have h00 : Fr.code bs = 0 := by simpa using h0
    by_cases h1 : 7 + Fr.num bs < bs.length
    · have e : Fr.ocode bs = 3 := by unfold Fr.ocode; rw [if_neg h0, if_pos h1]
      obtain ⟨m, hm⟩ : ∃ m, Fr.num bs = m := ⟨_, rfl⟩
      rw [e]
      have h2 : (7 : Int) + (m : Int) < (n : Int) := by omega
      have H0 : Hid (Fr.code (bs.drop 0) = 0) := by unfold Hid; rw [List.drop_zero]; exact h00
      have HN : Hid (Fr.num (bs.drop 0) = m) := by unfold Hid; rw [List.drop_zero]; exact hm
      clear hr hnc hmc h hm e h00 h0 h1
      go_enter Tryd.func31, Tryd.ntmps31
      go_wp2_with fail
      refine (refnext_good a n cap bs 0 w w HR.out (Below.refl _ _) HM.out.1 HM.out.2 (Nat.zero_le _) H0.out).mono ?_
      rw [HN.out]
      rintro e1 w1 ⟨x1, c1, rfl, hr1, hb1⟩
      have HB1 : Hid (Below w.heap.size w w1) := hb1
      clear hb1 hr1
      go_wp2
      go_ret2
      exact ⟨rfl, HB1.out⟩
    · exact absurd (by unfold Fr.ocode; rw [if_neg h0, if_neg h1]) h

theorem refopen_ok (a : Option Addr) (n cap : Nat) (bs : List Nat) (w : World) (hr : Row w a n bs) (hnc : n ≤ cap) (hmc : cap ≤ maxLen) (h : Fr.ocode bs = 0) :
    Calls Tryd.prog 31 #[.slice a n cap] w fun e w' => ∃ x m c, e = .returned (.tuple #[.slice x m c, .int .i64 0]) ∧ Row w x m (Fr.rec bs) ∧ Below w.heap.size w w' := by
  have HR : Hid (Row w a n bs) := hr
  have hl := hr.1
  have HM : Hid (n ≤ cap ∧ cap ≤ maxLen) := ⟨hnc, hmc⟩
  obtain ⟨h0, h1, h2⟩ := ocode_zero h
  obtain ⟨m, hm⟩ : ∃ m, Fr.num bs = m := ⟨_, rfl⟩
  have h2 : ¬ (7 : Int) + (m : Int) < (n : Int) := by omega
  have H0 : Hid (Fr.code (bs.drop 0) = 0) := by unfold Hid; rw [List.drop_zero]; exact h0
  have HN : Hid (Fr.num (bs.drop 0) = m) := by unfold Hid; rw [List.drop_zero]; exact hm
  have HE : Hid (Fr.rec (bs.drop 0) = Fr.rec bs) := by unfold Hid; rw [List.drop_zero]
  have hnum := Fr.num_lt hr.2.1
  rw [hm] at hnum
  clear hr hnc hmc h hm h0 h1
  go_enter Tryd.func31, Tryd.ntmps31
  go_wp2_with fail
  refine (refnext_good a n cap bs 0 w w HR.out (Below.refl _ _) HM.out.1 HM.out.2 (Nat.zero_le _) H0.out).mono ?_
  rw [HN.out, HE.out]
  rintro e1 w1 ⟨x1, c1, rfl, hr1, hb1⟩
  have HB1 : Hid (Below w.heap.size w w1) := hb1
  have HR1 : Hid (Row w x1 m (Fr.rec bs)) := hr1
  clear hb1 hr1
  go_wp2
  go_ret2
  exact ⟨_, _, _, rfl, HR1.out, HB1.out⟩
end Go.Proofs.YtiemgdclhjdmlaaDoor
