/- What the functions of package frame do, second part: contracts. -/
import Derived.Test.YtmlpneiadkngaaaDoorFrA
namespace Go.Proofs.YtmlpneiadkngaaaDoor
open Go.RowKit
set_option linter.unusedVariables false

theorem Fr.num_lt {bs : List Nat} (h : ∀ x ∈ bs, x < 256) : Fr.num bs < 65536 := by
  have h1 := getD_lt bs h 1
  have h2 := getD_lt bs h 2
  unfold Fr.num
  omega

theorem first_bad (a : Option Addr) (n cap : Nat) (bs : List Nat) (w : World) (hr : Row w a n bs) (hnc : n ≤ cap) (hmc : cap ≤ maxLen) (h : Fr.code bs ≠ 0) :
    Calls Tryd.prog 68 #[.slice a n cap] w fun e w' => ∃ v qs, e = .returned (.tuple #[.int .i64 0, v]) ∧ Errv w' (Fr.code bs : Nat) qs v ∧ Below w.heap.size w w' := by
  have HR : Hid (Row w a n bs) := hr
  have hl := hr.1
  have hnum := Fr.num_lt hr.2.1
  by_cases h0 : Fr.lcode bs ≠ 0
  · have e : Fr.code bs = Fr.lcode bs := by simp [Fr.code, h0]
    rw [e] at h ⊢
    have H0 : Hid (Fr.lcode bs ≠ 0) := h0
    clear hr e h h0
    generalize hc : (Fr.lcode bs : Int) = c
    have HC : Hid ((Fr.lcode bs : Int) = c) := hc
    clear hc
    go_enter Tryd.func68, Tryd.ntmps68
    go_wp2_with fail
    refine (length_bad a n cap bs w HR.out H0.out).mono ?_
    rintro e w1 ⟨v1, qs, rfl, hv1, hb1⟩
    have HV : Hid (Errv w1 c qs v1) := by rw [HC.out] at hv1; exact hv1
    have HB : Hid (Below w.heap.size w w1) := hb1
    obtain ⟨t1, u1, rfl⟩ := hv1.iface
    clear hv1 hb1
    go_wp2_with fail
    refine (in_bad _ c qs _ w1 HV.out).mono ?_
    rintro e w2 ⟨v2, rfl, hv2, hb2⟩
    have HV2 : Hid (Errv w2 c _ v2) := hv2
    have HB2 : Hid (Below w.heap.size w w2) := HB.out.trans (hb2.mono HB.out.size)
    clear hv2 hb2
    go_wp2
    go_ret2
    exact ⟨_, _, rfl, HV2.out, HB2.out⟩
  · have h00 : Fr.lcode bs = 0 := by simpa using h0
    have H0 : Hid (Fr.lcode bs = 0) := h00
    obtain ⟨h3, _, _⟩ := lcode_zero h00
    obtain ⟨b, off, rfl, _⟩ := hr.at (by omega)
    unfold maxLen at hmc
    by_cases h1 : bs.length < 7 + Fr.num bs
    · have e : Fr.code bs = 4 := by simp [Fr.code, h00, h1]
      rw [e]
      clear hr e h h0 h00
      have hln : (n : Int) < 7 + (Fr.num bs : Int) := by omega
      generalize hm : Fr.num bs = m at hnum hln
      have HM : Hid (Fr.num bs = m) := hm
      clear hm h1
      go_enter Tryd.func68, Tryd.ntmps68
      go_wp2_with fail
      refine (length_ok _ n cap bs w HR.out H0.out).mono ?_
      rintro e w1 ⟨rfl, hb1⟩
      have HB : Hid (Below w.heap.size w w1) := hb1
      clear hb1
      rw [HM.out]
      go_wp2_with fail
      refine (new_bad _ 4 w1 (by decide)).mono ?_
      rintro e w2 ⟨v2, rfl, hv2, hb2⟩
      have HV2 : Hid (Errv w2 4 _ v2) := hv2
      have HB2 : Hid (Below w.heap.size w w2) := HB.out.trans (hb2.mono HB.out.size)
      clear hv2 hb2
      go_wp2
      go_ret2
      exact ⟨_, _, rfl, HV2.out, HB2.out⟩
    · by_cases hwh : Crc.whole ((bs.drop 1).take (6 + Fr.num bs)) = true
      · exact absurd (by unfold Fr.code; rw [if_neg h0, if_neg h1, if_pos hwh]) h
      · have e : Fr.code bs = 5 := by unfold Fr.code; rw [if_neg h0, if_neg h1, if_neg hwh]
        rw [e]
        have HW : Hid (Crc.whole ((bs.drop 1).take (6 + Fr.num bs)) = false) := (Bool.not_eq_true _).mp hwh
        have HP : Hid (Row w (some ⟨b, off + 1, none⟩) (6 + Fr.num bs) ((bs.drop 1).take (6 + Fr.num bs))) := hr.part 1 (6 + Fr.num bs) (by omega)
        clear hr e h h0 h00 hwh
        have hln : ¬ (n : Int) < 7 + (Fr.num bs : Int) := by omega
        have hln2 : 7 + Fr.num bs ≤ n := by omega
        generalize hm : Fr.num bs = m at hnum hln hln2 HP
        have HM : Hid (Fr.num bs = m) := hm
        clear hm h1
        go_enter Tryd.func68, Tryd.ntmps68
        go_wp2_with fail
        refine (length_ok _ n cap bs w HR.out H0.out).mono ?_
        rintro e w1 ⟨rfl, hb1⟩
        have HB : Hid (Below w.heap.size w w1) := hb1
        clear hb1
        rw [HM.out]
        go_wp2_with fail
        have HP2 : Hid (Row w1 (some ⟨b, off + 1, none⟩) (3 + m + 3) ((bs.drop 1).take (6 + m))) := by rw [show 3 + m + 3 = 6 + m by omega]; exact HP.out.later HB.out
        rw [HM.out] at HW
        refine (whole_any _ (3 + m + 3) (cap - 1) _ w1 HP2.out (by omega) (by unfold maxLen; omega)).mono ?_
        rw [HW.out]
        rintro e w2 ⟨rfl, k, hw⟩
        have HB2 : Hid (Below w.heap.size w w2) := by rw [hw]; exact drewN_below HB.out k
        clear hw
        go_wp2_with fail
        refine (new_bad _ 5 w2 (by decide)).mono ?_
        rintro e w3 ⟨v3, rfl, hv3, hb3⟩
        have HV3 : Hid (Errv w3 5 _ v3) := hv3
        have HB3 : Hid (Below w.heap.size w w3) := HB2.out.trans (hb3.mono HB2.out.size)
        clear hv3 hb3
        go_wp2
        go_ret2
        exact ⟨_, _, rfl, HV3.out, HB3.out⟩

theorem code_zero {bs : List Nat} (h : Fr.code bs = 0) : Fr.lcode bs = 0 ∧ 7 + Fr.num bs ≤ bs.length ∧ Crc.whole ((bs.drop 1).take (6 + Fr.num bs)) = true := by
  unfold Fr.code at h
  by_cases h1 : Fr.lcode bs ≠ 0
  · rw [if_pos h1] at h; exact absurd h h1
  · rw [if_neg h1] at h
    by_cases h2 : bs.length < 7 + Fr.num bs
    · rw [if_pos h2] at h; cases h
    · rw [if_neg h2] at h
      by_cases h3 : Crc.whole ((bs.drop 1).take (6 + Fr.num bs)) = true
      · exact ⟨by simpa using h1, by omega, h3⟩
      · rw [if_neg h3] at h; cases h

theorem first_ok (a : Option Addr) (n cap : Nat) (bs : List Nat) (w : World) (hr : Row w a n bs) (hnc : n ≤ cap) (hmc : cap ≤ maxLen) (h : Fr.code bs = 0) :
    Calls Tryd.prog 68 #[.slice a n cap] w fun e w' => e = .returned (.tuple #[.int .i64 (3 + (Fr.num bs : Int) + 4), .nilIface]) ∧ Below w.heap.size w w' := by
  have HR : Hid (Row w a n bs) := hr
  have hl := hr.1
  have hnum := Fr.num_lt hr.2.1
  obtain ⟨h00, h1, hwh⟩ := code_zero h
  have H0 : Hid (Fr.lcode bs = 0) := h00
  obtain ⟨h3, _, _⟩ := lcode_zero h00
  obtain ⟨b, off, rfl, _⟩ := hr.at (by omega)
  unfold maxLen at hmc
  have HW : Hid (Crc.whole ((bs.drop 1).take (6 + Fr.num bs)) = true) := hwh
  have HP : Hid (Row w (some ⟨b, off + 1, none⟩) (6 + Fr.num bs) ((bs.drop 1).take (6 + Fr.num bs))) := hr.part 1 (6 + Fr.num bs) (by omega)
  clear hr h h00 hwh
  have hln : ¬ (n : Int) < 7 + (Fr.num bs : Int) := by omega
  have hln2 : 7 + Fr.num bs ≤ n := by omega
  generalize hm : Fr.num bs = m at hnum hln hln2 HP HW ⊢
  have HM : Hid (Fr.num bs = m) := hm
  clear hm h1
  go_enter Tryd.func68, Tryd.ntmps68
  go_wp2_with fail
  refine (length_ok _ n cap bs w HR.out H0.out).mono ?_
  rintro e w1 ⟨rfl, hb1⟩
  have HB : Hid (Below w.heap.size w w1) := hb1
  clear hb1
  rw [HM.out]
  go_wp2_with fail
  have HP2 : Hid (Row w1 (some ⟨b, off + 1, none⟩) (3 + m + 3) ((bs.drop 1).take (6 + m))) := by rw [show 3 + m + 3 = 6 + m by omega]; exact HP.out.later HB.out
  refine (whole_any _ (3 + m + 3) (cap - 1) _ w1 HP2.out (by omega) (by unfold maxLen; omega)).mono ?_
  rw [HW.out]
  rintro e w2 ⟨rfl, k, hw⟩
  have HB2 : Hid (Below w.heap.size w w2) := by rw [hw]; exact drewN_below HB.out k
  clear hw
  go_wp2
  go_ret2
  exact ⟨rfl, HB2.out⟩


theorem eql_some_nil (w : World) (a : Addr) (n c : Nat) : (binOp .eql 22 (.slice (some a) n c) (.slice none 0 0)).run Tryd.prog w = .ok (.bool false) w := by
  have h : ∀ d : Nat, (Op.equalIn (d + 1) 22 (.slice (some a) n c) (.slice none 0 0)).run Tryd.prog w = .ok false w := fun d => by simp [Op.equalIn, run_underlying Tryd.underlying22]
  simp only [binOp]
  simp [Op.equal, Op.maxDepth, h 9999]

set_option maxRecDepth 100000 in
theorem clone_any (b off n cap : Nat) (bs : List Nat) (w : World) (hr : Row w (some ⟨b, off, none⟩) n bs) (hn : n ≤ 140737488351232) :
    Calls Tryd.prog 27 #[.slice (some ⟨b, off, none⟩) n cap] w fun e w' => ∃ v, e = .returned v ∧ Own w' w.heap.size v bs ∧ Below w.heap.size w w' := by
  have hr1 := hr.later (below_new w (.cells #[] 5))
  have ho := Own.new w w.heap.size (Nat.le_refl _) #[] [] rfl (by simp) (by simp)
  have hl := hr.1
  have he := eql_some_nil w ⟨b, off, none⟩ n cap
  clear hr
  go_enter Tryd.func27, Tryd.ntmps27
  go_wp2_with (at_builtin; refine wp_append_row rfl _ _ rfl w.heap.size _ [] rfl ho _ _ _ bs rfl hr1 (by simp) (by simp; omega) (by simp) ?_; intro v2 w2 ho2 hb2)
  go_ret
  exact ⟨_, rfl, by simpa using ho2, (below_new _ _).trans hb2⟩

theorem record_any (b off n cap : Nat) (bs : List Nat) (w : World) (hr : Row w (some ⟨b, off, none⟩) (n + 7) bs) (h0 : 0 < n) (hn : n ≤ 65535) (hnc : n + 7 ≤ cap) (hmc : cap ≤ maxLen) :
    Calls Tryd.prog 69 #[.slice (some ⟨b, off, none⟩) (n + 7 : Nat) cap] w fun e w' => ∃ v, e = .returned v ∧ Own w' w.heap.size v ((bs.drop 3).take n) ∧ Below w.heap.size w w' := by
  have HP : Hid (Row w (some ⟨b, off + 3, none⟩) n ((bs.drop 3).take n)) := hr.part 3 n (by omega)
  clear hr
  unfold maxLen at hmc
  go_enter Tryd.func69, Tryd.ntmps69
  go_wp2_with fail
  refine (clone_any b (off + 3) n (cap - 3) _ w HP.out (by omega)).mono ?_
  rintro e w1 ⟨v1, rfl, ho1, hb1⟩
  have HO : Hid (Own w1 w.heap.size v1 ((bs.drop 3).take n)) := ho1
  have HB : Hid (Below w.heap.size w w1) := hb1
  clear ho1 hb1
  go_wp2
  go_ret
  exact ⟨_, rfl, HO.out, HB.out⟩

theorem next_bad (a : Option Addr) (n cap : Nat) (bs : List Nat) (w : World) (hg : G w) (hr : Row w a n bs) (hnc : n ≤ cap) (hmc : cap ≤ maxLen) (h : Fr.code bs ≠ 0) :
    Calls Tryd.prog 53 #[.slice a n cap] w fun e w' => e = .returned (.tuple #[.slice none 0 0, .int .i64 0, .int .i64 (Fr.code bs : Nat)]) ∧ Below w.heap.size w w' := by
  have HR : Hid (Row w a n bs) := hr
  have HG : Hid (G w) := hg
  have HX : Hid (n ≤ cap ∧ cap ≤ maxLen ∧ Fr.code bs ≠ 0) := ⟨hnc, hmc, h⟩
  generalize hc : ((Fr.code bs : Nat) : Int) = c
  have HC : Hid (((Fr.code bs : Nat) : Int) = c) := hc
  clear hr hg hnc hmc h hc
  go_enter Tryd.func53, Tryd.ntmps53
  go_wp2_with fail
  refine (first_bad a n cap bs w HR.out HX.out.1 HX.out.2.1 HX.out.2.2).mono ?_
  rintro e w1 ⟨v1, qs, rfl, hv1, hb1⟩
  have HV : Hid (Errv w1 c qs v1) := by rw [HC.out] at hv1; exact hv1
  have HB : Hid (Below w.heap.size w w1) := hb1
  obtain ⟨t1, u1, rfl⟩ := hv1.iface
  clear hv1 hb1
  go_wp2_with fail
  refine (code_any c qs _ w1 (HG.out.later HB.out) HV.out).mono ?_
  rintro e w2 ⟨rfl, hb2⟩
  have HB2 : Hid (Below w.heap.size w w2) := HB.out.trans (hb2.mono HB.out.size)
  clear hb2
  go_wp2
  go_ret3
  exact ⟨rfl, HB2.out⟩

theorem next_ok (a : Option Addr) (n cap : Nat) (bs : List Nat) (w : World) (hr : Row w a n bs) (hnc : n ≤ cap) (hmc : cap ≤ maxLen) (h : Fr.code bs = 0) :
    Calls Tryd.prog 53 #[.slice a n cap] w fun e w' => ∃ v, e = .returned (.tuple #[v, .int .i64 (3 + (Fr.num bs : Int) + 4), .int .i64 0]) ∧ Own w' w.heap.size v (Fr.rec bs) ∧ Below w.heap.size w w' := by
  have HR : Hid (Row w a n bs) := hr
  have HX : Hid (n ≤ cap ∧ cap ≤ maxLen ∧ Fr.code bs = 0) := ⟨hnc, hmc, h⟩
  have hl := hr.1
  have hsz := Fr.code_size bs h
  have hnum := Fr.num_lt hr.2.1
  obtain ⟨b, off, rfl, _⟩ := hr.at (by omega)
  have ht := hr.take (Fr.num bs + 7) (by omega)
  have e : ((bs.take (Fr.num bs + 7)).drop 3).take (Fr.num bs) = Fr.rec bs := by
    unfold Fr.rec
    rw [List.drop_take, List.take_take]
    congr 1
    omega
  have HE : Hid (_ = _) := e
  have HT : Hid (Row w _ _ _) := ht
  clear hr h e ht
  unfold maxLen at hmc
  have hln : Fr.num bs + 7 ≤ n := by omega
  have hm0 : 0 < Fr.num bs := by omega
  generalize hm : Fr.num bs = m at hnum hln hm0 HT HE ⊢
  have HM : Hid (Fr.num bs = m) := hm
  clear hm hsz
  go_enter Tryd.func53, Tryd.ntmps53
  go_wp2_with fail
  refine (first_ok _ n cap bs w HR.out HX.out.1 HX.out.2.1 HX.out.2.2).mono ?_
  rintro e w1 ⟨rfl, hb1⟩
  have HB : Hid (Below w.heap.size w w1) := hb1
  clear hb1
  rw [HM.out]
  go_wp2_with fail
  rw [show 3 + m + 4 = m + 7 by omega]
  refine (record_any b off m cap _ w1 (HT.out.later HB.out) hm0 (by omega) (by omega) (by unfold maxLen; omega)).mono ?_
  rintro e w2 ⟨v2, rfl, ho2, hb2⟩
  have HO : Hid (Own w2 w.heap.size v2 (Fr.rec bs)) := by rw [HE.out] at ho2; exact ho2.mono HB.out.size
  have HB2 : Hid (Below w.heap.size w w2) := HB.out.trans (hb2.mono HB.out.size)
  clear ho2 hb2
  go_wp2
  go_ret3
  exact ⟨_, rfl, HO.out, HB2.out⟩

theorem ocode_zero {bs : List Nat} (h : Fr.ocode bs = 0) : Fr.code bs = 0 ∧ bs.length = Fr.num bs + 7 ∧ 1 ≤ Fr.num bs := by
  unfold Fr.ocode at h
  by_cases h0 : Fr.code bs ≠ 0
  · rw [if_pos h0] at h; exact absurd h h0
  · rw [if_neg h0] at h
    have h00 : Fr.code bs = 0 := by simpa using h0
    have := Fr.code_size bs h00
    by_cases h1 : 7 + Fr.num bs < bs.length
    · rw [if_pos h1] at h; cases h
    · exact ⟨h00, by omega, by omega⟩

end Go.Proofs.YtmlpneiadkngaaaDoor
