/- All records of some bytes: a contract. -/
import Derived.Test.YtmlpneiadkngaaaDoorFrE
namespace Go.Proofs.YtmlpneiadkngaaaDoor
open Go.RowKit
set_option linter.unusedVariables false

theorem Good.next {bs : List Nat} {k : Nat} (h : Fr.Good bs k) (h0 : Fr.code (bs.drop (Fr.ends bs k)) = 0) : Fr.Good bs (k + 1) := by
  intro j hj
  rcases Nat.lt_or_ge j k with h1 | h1
  · exact h j h1
  · obtain rfl : j = k := by omega
    exact h0

set_option maxRecDepth 100000 in
set_option maxHeartbeats 1000000 in
theorem all_none (cap : Nat) (w : World) (hg : G w) (hz : cap = 0) :
    Calls Tryd.prog 38 #[.slice none 0 cap] w fun e w' => ∃ v k, e = .returned (.tuple #[v, .int .i64 (Fr.ends [] k : Nat), .int .i64 (Fr.code (([] : List Nat).drop (Fr.ends [] k)) : Nat)]) ∧ Fr.Stop [] k ∧ RecO w' w.heap.size v (Fr.recs [] k) ∧ Below w.heap.size w w' := by
  subst hz
  have HG : Hid (G w) := hg
  clear hg
  go_enter Tryd.func38, Tryd.ntmps38
  go_wp2
  refine wp_loop_rounds 1 ?_
  rw [rounds_succ]
  go_wp2_with fail
  refine (next_bad none 0 0 [] w HG.out Row.empty (Nat.le_refl _) (by simp) (by decide)).mono ?_
  rintro e w1 ⟨rfl, hb1⟩
  have HB1 : Hid (Below w.heap.size w w1) := hb1
  clear hb1
  have e6 : Fr.code [] = 6 := rfl
  rw [e6]
  go_wp2
  go_ret3
  refine ⟨_, 0, rfl, ⟨fun j hj => by omega, by decide⟩, ⟨[], OwnV.nil _ _ _, rfl, by simp⟩, HB1.out⟩

set_option maxRecDepth 100000 in
set_option maxHeartbeats 2000000 in
theorem all_some (b off n cap : Nat) (bs : List Nat) (w : World) (hg : G w) (hr : Row w (some ⟨b, off, none⟩) n bs) (hn : n ≤ 100000) (hnc : n ≤ cap) (hmc : cap ≤ maxLen) :
    Calls Tryd.prog 38 #[.slice (some ⟨b, off, none⟩) n cap] w fun e w' => ∃ v k, e = .returned (.tuple #[v, .int .i64 (Fr.ends bs k : Nat), .int .i64 (Fr.code (bs.drop (Fr.ends bs k)) : Nat)]) ∧ Fr.Stop bs k ∧ RecO w' w.heap.size v (Fr.recs bs k) ∧ Below w.heap.size w w' := by
  have HG : Hid (G w) := hg
  have HR : Hid (Row w (some ⟨b, off, none⟩) n bs) := hr
  have hl := hr.1
  have HM : Hid (cap ≤ maxLen) := hmc
  unfold maxLen at hmc
  clear hg hr
  go_enter Tryd.func38, Tryd.ntmps38
  go_wp2
  go_loopw [5, 6] (fun rv ev wr => ∃ k e : Nat, Hid (Fr.ends bs k = e) ∧ e ≤ n ∧ ev = .int .i64 e ∧ Hid (Fr.Good bs k) ∧ Hid (RecO wr w.heap.size rv (Fr.recs bs k)) ∧ Hid (Below w.heap.size w wr)) (fun rv ev wr => n - (intOf ev).toNat)
  case atStart => exact ⟨0, 0, rfl, Nat.zero_le _, rfl, fun j hj => by omega, ⟨[], OwnV.nil _ _ _, rfl, by simp⟩, Below.refl _ _⟩
  case round =>
    obtain ⟨k, e, HE, hen, rfl, HGood, HO, hB⟩ := hrel
    obtain ⟨c, HC⟩ : ∃ c, Hid (Fr.code (bs.drop e) = c) := ⟨Fr.code (bs.drop e), rfl⟩
    by_cases hc0 : c = 0
    · subst hc0
      have hsz := Fr.code_size _ HC.out
      rw [List.length_drop] at hsz
      have hne : ¬ cap = e := by omega
      have HRD : Hid (Row wr (some ⟨b, off + e, none⟩) (n - e) (bs.drop e)) := (HR.out.drop e hen).later hB.out
      obtain ⟨m, hm⟩ : ∃ m, Fr.num (bs.drop e) = m := ⟨_, rfl⟩
      rw [hm] at hsz
      have hsz1 : 7 + m ≤ n - e := by omega
      have HMM : Hid (Fr.num (bs.drop e) = m) := hm
      have hk : 8 * k ≤ n := by
        have := Fr.ends_le bs k HGood.out
        omega
      clear hsz hm
      go_wp2_with fail
      refine (next_ok (some ⟨b, off + e, none⟩) (n - e) (cap - e) _ wr HRD.out (by omega) (by unfold maxLen; omega) HC.out).mono ?_
      rintro e1 w1 ⟨v1, rfl, ho1, hb1⟩
      rw [HMM.out]
      have HO1 : Hid (RecO w1 w.heap.size _ (Fr.recs bs k)) := HO.out.later hb1
      have HV1 : Hid (Own w1 w.heap.size v1 (Fr.rec (bs.drop e))) := ho1.mono hB.out.size
      have HB1 : Hid (Below w.heap.size w w1) := hB.out.trans (hb1.mono hB.out.size)
      obtain ⟨a1, n1, cap1, hv1, _, _, _, _, _⟩ := ho1.slice
      subst hv1
      obtain ⟨vs, hov, hlen, hrs⟩ := HO1.out
      rw [Fr.recs_length] at hlen
      have hov1 := hov.alloc (.cells #[.slice a1 n1 cap1] 22)
      have hszw := HB1.out.size
      have HRS : Hid (∀ (i : Nat) x r, vs[i]? = some x → (Fr.recs bs k)[i]? = some r → Own w1 w.heap.size x r) := hrs
      clear ho1 hb1 HO HO1 hrs
      go_wp2_with (at_builtin; refine wp_append_oneG 28 22 _ 24 Tryd.underlying28 Try.info_42 rfl rfl _ _ rfl w.heap.size _ _ rfl hov1 _ _ (.slice a1 n1 cap1) rfl (by simp) rfl (by rw [hlen]; omega) (by rw [hlen]; omega) (by simp; omega) ?_; intro v2 w2 ho2 hb2 hg2)
      have HB2 : Hid (Below w.heap.size w w2) := (HB1.out.alloc hszw _).trans hb2
      have HO2 : Hid (RecO w2 w.heap.size v2 (Fr.recs bs (k + 1))) := by
        refine ⟨_, ho2, by simp [Fr.recs, Fr.recs_length, hlen], ?_⟩
        intro i x r hx hr
        simp only [Fr.recs] at hr
        rw [HE.out] at hr
        rcases snoc_at hx with ⟨hi, hx1⟩ | ⟨hi, rfl⟩
        · rcases snoc_at hr with ⟨hj, hr1⟩ | ⟨hj, _⟩
          · exact ((HRS.out i x r hx1 hr1).alloc _).kept hov1 hg2 (by decide)
          · rw [Fr.recs_length] at hj; omega
        · rcases snoc_at hr with ⟨hj, _⟩ | ⟨hj, rfl⟩
          · rw [Fr.recs_length] at hj; omega
          · exact (HV1.out.alloc _).kept hov1 hg2 (by decide)
      have HE2 : Hid (Fr.ends bs (k + 1) = e + (7 + m)) := by unfold Hid; simp only [Fr.ends]; rw [HE.out, HMM.out]
      have HG2 : Hid (Fr.Good bs (k + 1)) := Good.next HGood.out (by rw [HE.out]; exact HC.out)
      clear ho2 hb2 hg2 hov hov1 HRS
      refine ⟨⟨k + 1, e + (7 + m), HE2, by omega, by go_num, HG2, HO2, HB2⟩, ?_⟩
      simp [intOf]
      omega
    · have hci : ((c : Int) == 0) = false := by simp; omega
      have HCC : Hid (Fr.code (bs.drop e) ≠ 0) := by unfold Hid; rw [HC.out]; exact hc0
      have HST : Hid (Fr.Stop bs k) := ⟨HGood.out, by rw [HE.out]; exact HCC.out⟩
      have HGR : Hid (G wr) := HG.out.later hB.out
      by_cases hce : cap = e
      · have hnn : n = e := by omega
        have HRD : Hid (Row wr (some ⟨b, off, none⟩) 0 (bs.drop e)) := by
          have : bs.drop e = [] := List.drop_eq_nil_iff.2 (by omega)
          rw [this]
          exact Row.empty
        subst hce
        subst hnn
        go_wp2_with fail
        refine (next_bad (some ⟨b, off, none⟩) 0 0 _ wr HGR.out HRD.out (by omega) (by unfold maxLen; omega) HCC.out).mono ?_
        rw [HC.out]
        rintro e1 w1 ⟨rfl, hb1⟩
        have HO1 := HO.out.later hb1
        have HR1 := (show Hid _ from HO1)
        have HB1 : Hid (Below w.heap.size w w1) := hB.out.trans (hb1.mono hB.out.size)
        clear hb1 HO1 HO
        go_wp2
        go_ret3
        refine ⟨_, k, ?_, HST.out, HR1.out, HB1.out⟩
        rw [HE.out, HC.out]
        rfl
      · have HRD : Hid (Row wr (some ⟨b, off + e, none⟩) (n - e) (bs.drop e)) := (HR.out.drop e hen).later hB.out
        go_wp2_with fail
        refine (next_bad (some ⟨b, off + e, none⟩) (n - e) (cap - e) _ wr HGR.out HRD.out (by omega) (by unfold maxLen; omega) HCC.out).mono ?_
        rw [HC.out]
        rintro e1 w1 ⟨rfl, hb1⟩
        have HO1 := HO.out.later hb1
        have HR1 := (show Hid _ from HO1)
        have HB1 : Hid (Below w.heap.size w w1) := hB.out.trans (hb1.mono hB.out.size)
        clear hb1 HO1 HO
        go_wp2
        go_ret3
        refine ⟨_, k, ?_, HST.out, HR1.out, HB1.out⟩
        rw [HE.out, HC.out]
        rfl

set_option maxRecDepth 100000 in
set_option maxHeartbeats 1000000 in
theorem all_empty (x : Addr) (cap : Nat) (w : World) (hg : G w) (hmc : cap ≤ maxLen) :
    Calls Tryd.prog 38 #[.slice (some x) 0 cap] w fun e w' => ∃ v k, e = .returned (.tuple #[v, .int .i64 (Fr.ends [] k : Nat), .int .i64 (Fr.code (([] : List Nat).drop (Fr.ends [] k)) : Nat)]) ∧ Fr.Stop [] k ∧ RecO w' w.heap.size v (Fr.recs [] k) ∧ Below w.heap.size w w' := by
  have HG : Hid (G w) := hg
  have HM : Hid (cap ≤ maxLen) := hmc
  unfold maxLen at hmc
  clear hg
  have e6 : Fr.code [] = 6 := rfl
  obtain ⟨b, off, spot⟩ := x
  by_cases h0 : cap = 0
  · subst h0
    go_enter Tryd.func38, Tryd.ntmps38
    go_wp2
    refine wp_loop_rounds 1 ?_
    rw [rounds_succ]
    go_wp2_with fail
    refine (next_bad _ 0 _ [] w HG.out Row.empty (Nat.zero_le _) (by unfold maxLen; omega) (by decide)).mono ?_
    rintro e w1 ⟨rfl, hb1⟩
    have HB1 : Hid (Below w.heap.size w w1) := hb1
    clear hb1
    rw [e6]
    go_wp2
    go_ret3
    refine ⟨_, 0, rfl, ⟨fun j hj => by omega, by decide⟩, ⟨[], OwnV.nil _ _ _, rfl, by simp⟩, HB1.out⟩
  · go_enter Tryd.func38, Tryd.ntmps38
    go_wp2
    refine wp_loop_rounds 1 ?_
    rw [rounds_succ]
    go_wp2_with fail
    refine (next_bad _ 0 _ [] w HG.out Row.empty (Nat.zero_le _) (by unfold maxLen; omega) (by decide)).mono ?_
    rintro e w1 ⟨rfl, hb1⟩
    have HB1 : Hid (Below w.heap.size w w1) := hb1
    clear hb1
    rw [e6]
    go_wp2
    go_ret3
    refine ⟨_, 0, rfl, ⟨fun j hj => by omega, by decide⟩, ⟨[], OwnV.nil _ _ _, rfl, by simp⟩, HB1.out⟩

theorem all_any (a : Option Addr) (n cap : Nat) (bs : List Nat) (w : World) (hg : G w) (hr : Row w a n bs) (hn : n ≤ 100000) (hnc : n ≤ cap) (hmc : cap ≤ maxLen) (hz : a = none → cap = 0) :
    Calls Tryd.prog 38 #[.slice a n cap] w fun e w' => ∃ v k, e = .returned (.tuple #[v, .int .i64 (Fr.ends bs k : Nat), .int .i64 (Fr.code (bs.drop (Fr.ends bs k)) : Nat)]) ∧ Fr.Stop bs k ∧ RecO w' w.heap.size v (Fr.recs bs k) ∧ Below w.heap.size w w' := by
  cases a with
  | none =>
    have h0 : cap = 0 := hz rfl
    have hn0 : n = 0 := by omega
    have hb : bs = [] := List.length_eq_zero_iff.1 (by rw [hr.1]; exact hn0)
    subst hb
    subst hn0
    exact all_none cap w hg h0
  | some x =>
    by_cases h0 : n = 0
    · subst h0
      have hb : bs = [] := List.length_eq_zero_iff.1 hr.1
      subst hb
      exact all_empty x cap w hg hmc
    · obtain ⟨b, off, hx, _⟩ := hr.at (by omega)
      rw [hx] at hr ⊢
      exact all_some b off n cap bs w hg hr hn hnc hmc
end Go.Proofs.YtmlpneiadkngaaaDoor
