/-
  FrameBursts: for all bytes, every place and all bits the law returns true and leaves its arguments as they were; condition: the variable errors.errorType lies as the text of package errors lays it (a tied card).
-/
import Derived.Test.YtiemgdclhjdmlaaDoorRows
import Derived.Test.YtiemgdclhjdmlaaDoorCards
import Derived.Test.YtiemgdclhjdmlaaDoorTie
import Derived.Test.YtiemgdclhjdmlaaDoorDoor
import Derived.Test.YtiemgdclhjdmlaaDoorFrC
import Derived.Test.YtiemgdclhjdmlaaDoorFrTurn
import Derived.WalkKit
import Derived.ProofKit
import Derived.OpenShut
import Derived.ShutString
import Derived.ChangeOld
import Derived.Below
import Derived.SevenTiedAt
namespace Go.Proofs.YtiemgdclhjdmlaaDoor.frameBursts
open Go.ChangeShapes Go.WideShapes Go.ChangeAt Go.RowKit
open Go.ChangeMaps (open_string shut_string)
set_option linter.unusedSimpArgs false
set_option linter.unusedVariables false

theorem laidOut : laidOutB Tryd.prog = true := by kernel_rfl

/-! The law returns true, and writes nothing that was there. -/
set_option maxRecDepth 100000 in
set_option maxHeartbeats 4000000 in
theorem walk (a0 : Option Addr) (len0 cap0 : Nat) (z0 : List Int) (a1 : Int) (a2 : Int) (w : World) (hg : G w) (w0 : IsRow .u8 w a0 len0 cap0 z0) (w1 : (Lit.int .u16 a1).wf = true) (w2 : (Lit.int .u32 a2).wf = true) :
    Calls Tryd.prog 10 #[.slice a0 len0 cap0, .int .u16 a1, .int .u32 a2] w fun e w' => e = .returned (.bool true) ∧ Below w.heap.size w w' := by
  obtain ⟨at0, rfl⟩ : ∃ t : Nat, a1 = (t : Int) := ⟨a1.toNat, by have := bounds_u16 w1; omega⟩
  have hat : at0 < 65536 := by have := bounds_u16 w1; omega
  obtain ⟨t, rfl⟩ : ∃ t : Nat, a2 = (t : Int) := ⟨a2.toNat, by have := bounds_u32 w2; omega⟩
  have ht : t < 4294967296 := by have := bounds_u32 w2; omega
  have r0 := w0.row (min len0 200) (Nat.min_le_left _ _)
  have f0 := w0.facts
  have l0 : min len0 200 ≤ 200 := Nat.min_le_right _ _
  have HG : Hid (G w) := hg
  clear hg
  go_enter Tryd.func10, Tryd.ntmps10
  go_wp2_with fail
  refine (few4_any _ _ _ _ _ w0).mono ?_
  rintro e w' ⟨rfl, hw⟩
  subst w'
  clear w0
  generalize firsts z0 (min len0 200) = bs at r0
  generalize min len0 200 = n at r0 l0 ⊢
  have hl0 := r0.1
  by_cases hn : n = 0
  · subst hn
    go_wp2_with fail
    refine (put_bad _ 0 _ _ (.inl (by omega))).mono ?_
    rintro e w' ⟨rfl, hw⟩
    subst w'
    go_wp2_with fail
    refine (awake4_any _).mono ?_
    rintro e w5 ⟨rfl, hb5⟩
    go_wp2
    go_ret
    exact ⟨rfl, hb5⟩
  have hn0 : ((n : Int) == 0) = false := by simp; omega
  have hbyt : ∀ x ∈ bs, x < 256 := r0.2.1
  go_wp2_with fail
  refine (put_ok _ n _ bs _ r0 f0.2.2 (by omega) (by omega)).mono ?_
  rintro e w3 ⟨v3, rfl, ho3, hb3⟩
  have HPL : Hid ((Fr.put bs).length = n + 7) := by unfold Hid; rw [Fr.put_length]; omega
  obtain ⟨a3, cap3, hv3, r3, hc3, hm3, hz3, _⟩ := ho3.sliceN (n + 7) HPL.out
  subst hv3
  have hb1 : Below w.heap.size w w3 := hb3
  have HB1 : Hid (Below w.heap.size w w3) := hb3
  clear ho3 hb3
  by_cases h0 : t = 0
  · subst h0
    clear r3
    have hgt : decide ((0 : Int) < (n : Int)) = true := by simp; omega
    go_wp2_with fail
    refine (awake4_any _).mono ?_
    rintro e w5 ⟨rfl, hb5⟩
    have HB5 : Hid (Below w.heap.size w w5) := HB1.out.trans (hb5.mono HB1.out.size)
    clear hb5 hb1
    go_wp2
    go_ret
    exact ⟨rfl, HB5.out⟩
  · have hti : ((t : Int) == 0) = false := by simp; omega
    have h8 : ¬ ((n : Int) + 7 < 8) := by omega
    have ho := Own.new w3 w.heap.size hb1.size #[] [] rfl (by simp) (by simp)
    have ra := r3.later (below_new w3 (.cells #[] 5))
    have hbn := hb1.alloc hb1.size (.cells #[] 5)
    have hla : (([] : List Nat) ++ Fr.put bs).length = n + 7 := by rw [List.nil_append]; exact HPL.out
    have hsz1 : w.heap.size ≤ (w3.alloc (.cells #[] 5)).heap.size := hbn.size
    clear r3 hb1
    go_wp2_with (at_builtin; refine wp_append_at rfl _ _ rfl w.heap.size _ [] rfl ho _ _ _ _ rfl ra hz3 (by simp; omega) hsz1 (n + 7) hla (by omega) ?_; intro g cap2 w2 hg hc2 hm2 ho2 hb2)
    have hfr : (at0 : Int) % (8 * ((n : Int) + 7) - 31) = ((at0 % (8 * (n + 7) - 31) : Nat) : Int) := by
      have e : (8 * ((n : Int) + 7) - 31) = ((8 * (n + 7) - 31 : Nat) : Int) := by omega
      rw [e]
      simp
    have hfl : at0 % (8 * (n + 7) - 31) < 8 * (n + 7) - 31 := Nat.mod_lt _ (by omega)
    rw [hfr]
    generalize at0 % (8 * (n + 7) - 31) = fr at hfl ⊢
    clear hfr
    rw [List.nil_append] at ho2
    have hb3 := hbn.trans hb2
    obtain ⟨sl, HSL⟩ : ∃ sl, Hid (Fr.put bs = sl) := ⟨Fr.put bs, rfl⟩
    rw [HSL.out] at ho2
    obtain ⟨N, HN⟩ : ∃ N, Hid (n + 7 = N) := ⟨n + 7, rfl⟩
    clear hb2 hbn ra hla ho
    go_loopw [11] (fun i wr => ∃ (k : Nat) (cs : List Nat), k ≤ 32 ∧ i = .int .i64 k ∧ Own wr w.heap.size (.slice (some ⟨g, 0, none⟩) (n + 7) cap2) cs ∧ Hid (Crc.low cs = Crc.low sl ^^^ 2 ^ fr * (t % 2 ^ k)) ∧ Below w.heap.size w wr) (fun i _ => 32 - (intOf i).toNat)
    case atStart => exact ⟨0, _, Nat.zero_le _, rfl, ho2, by simp [Hid, Nat.mod_one], hb3⟩
    case round =>
      obtain ⟨k, cs, hk, rfl, hos, HX, hbs⟩ := hrel
      by_cases hlt : k < 32
      · obtain ⟨j, hj⟩ : ∃ j : Nat, j = (fr + k) / 8 := ⟨_, rfl⟩
        obtain ⟨r, hr⟩ : ∃ r : Nat, r = (fr + k) % 8 := ⟨_, rfl⟩
        have hji : ((fr : Int) + (k : Int)) / 8 = (j : Int) := by omega
        have hri : ((fr : Int) + (k : Int)) % 8 = (r : Int) := by omega
        have hjN : (j : Int) < (n : Int) + 7 := by omega
        have hj0 : (0 : Int) ≤ (j : Int) := by omega
        have hr8 : r < 8 := by omega
        have HJ : Hid (8 * j + r = fr + k) := by unfold Hid; omega
        clear hj hr
        have hcell := hos.cellAt j (by omega)
        have hfz := hos.frozenAt j
        have hxl := getD_lt cs hos.2 j
        have HT : Hid (_ = _) := Crc.low_set cs j r hos.2 (by have := hos.length; omega) hr8
        generalize cs[j]?.getD 0 = x at hcell hxl HT
        rcases Nat.mod_two_eq_zero_or_one (t / 2 ^ k) with hb0 | hb1
        · have hbit : bits .and .u32 ((t : Int) / 2 ^ k) 1 = 0 := by
            have := u32_and_nat (t / 2 ^ k) 1 (Nat.lt_of_le_of_lt (Nat.div_le_self _ _) ht) (by omega)
            rw [Nat.and_one_is_mod, hb0] at this
            simpa using this
          go_wp2
          go_roundw
          case rel => exact ⟨k + 1, cs, by omega, by go_num, hos, by unfold Hid; rw [HX.out, Crc.bits_off t k hb0], hbs⟩
          case measure => simp [intOf]; omega
        · have hbit : bits .and .u32 ((t : Int) / 2 ^ k) 1 = 1 := by
            have := u32_and_nat (t / 2 ^ k) 1 (Nat.lt_of_le_of_lt (Nat.div_le_self _ _) ht) (by omega)
            rw [Nat.and_one_is_mod, hb1] at this
            simpa using this
          have h2r : 2 ^ r < 256 := by have : 2 ^ r < 2 ^ 8 := Nat.pow_lt_pow_right (by omega) hr8; omega
          have hxx : bits .xor .u8 (x : Int) (2 ^ r % 256) = ((x ^^^ 2 ^ r : Nat) : Int) := by
            have h3 := u8_xor_nat x (2 ^ r) hxl h2r
            have h4 : (2 ^ r : Int) % 256 = ((2 ^ r : Nat) : Int) := by
              have h5 : ((2 ^ r : Nat) : Int) = (2 : Int) ^ r := by simp
              rw [← h5]
              generalize 2 ^ r = y at h2r ⊢
              omega
            rw [h4]
            exact h3
          have hx8 : x ^^^ 2 ^ r < 256 := by have : x ^^^ 2 ^ r < 2 ^ 8 := Nat.xor_lt_two_pow (by omega) (by omega); omega
          have st := hos.stored hg j (x ^^^ 2 ^ r) hx8
          have HXX : Hid (_ = _) := hxx
          clear hxx
          go_wp2
          go_roundw
          case rel => exact ⟨k + 1, _, by omega, by go_num, by rw [HXX.out]; exact st.1, by unfold Hid; rw [HT.out, HX.out, HJ.out, Crc.bits_on fr t k hb1, Nat.xor_assoc], by rw [HXX.out]; exact hbs.trans st.2⟩
          case measure => simp [intOf]; omega
      · obtain rfl : k = 32 := by omega
        have hwc : Fr.ocode cs ≠ 0 := turned bs cs fr t (by omega) (by omega) hbyt hos.2 (by rw [hos.length, HPL.out]) (by rw [HSL.out, HX.out]; congr 2; omega) (by rw [HPL.out]; omega) h0 ht
        obtain ⟨q, hq⟩ : ∃ q : Nat, Fr.ocode cs = q := ⟨_, rfl⟩
        have hq0 : q ≠ 0 := by rw [← hq]; exact hwc
        have hqi : ((q : Int) == 0) = false := by simp; omega
        have HWC : Hid (Fr.ocode cs ≠ 0) := hwc
        have HQ : Hid (Fr.ocode cs = q) := hq
        have HR : Hid (Row wr (some ⟨g, 0, none⟩) (n + 7) cs) := hos.row
        have HB : Hid (Below w.heap.size w wr) := hbs
        clear hwc hq hos HX hbs ho2 hb3
        go_wp2_with fail
        refine (open_bad _ _ _ _ _ (HG.out.later HB.out) HR.out hc2 hm2 HWC.out).mono ?_
        rw [HQ.out]
        rintro e w5 ⟨rfl, hb5⟩
        have HB5 : Hid (Below w.heap.size w w5) := HB.out.trans (hb5.mono HB.out.size)
        clear hb5
        go_wp2_with fail
        refine (awake4_any _).mono ?_
        rintro e w6 ⟨rfl, hb6⟩
        have HB6 : Hid (Below w.heap.size w w6) := HB5.out.trans (hb6.mono HB5.out.size)
        clear hb6
        go_wp2
        go_ret
        exact ⟨ret_bool (by simp; omega), HB6.out⟩

/-! From the call to the statement. -/
set_option maxRecDepth 100000 in
theorem lifted (os : Os) (started : os.Started) (H : Type) (enc : TypeId × Value → H) :
    ReturnsInHanded {} Tryd.checked os 10 .any (fun w args => (Rows.frameBurstsSpec.pre enc Tryd.prog Tryd.f10 [] false w args ∧ laidMetH Tryd.prog listed w) ∧ sizedMet enc Tryd.prog Tryd.f10 (OpenSpec.ofChange Rows.frameBurstsSpec) false w args)
      (Rows.frameBurstsSpec.post enc Tryd.prog Tryd.f10 false true false false) := by
  refine returnsInHanded_of_change_and (C := Tryd.checked) (X := fun w _ => laidMetH Tryd.prog listed w) (fun _ _ _ hh h => h.of_heap hh) Fa.own started (by kernel_rfl) Tryd.func10
    (ChangeSpec.witness_shaped (enc := enc) (C := Tryd.checked) (os := os) (X := fun w _ => laidMetH Tryd.prog listed w) false (World.doorLaid Tryd.prog 400 os) #[.slice none 0 0, .int .u16 0, .int .u32 0] 8 rfl (World.shaped_of_RefB (by kernel_rfl) (by kernel_rfl)) (by kernel_rfl) (by kernel_rfl) (by kernel_rfl) (door_met os _)) ?_
  intro W base args ds gs before hval0 hW _ _ hL _
  have hval : ∀ (j : Nat) t v, Tryd.f10.params[j]? = some t → args[j]? = some v → Value.okWide Tryd.prog W .any base t v := hval0
  have hW' := hW
  obtain ⟨p, q, hA0, hV, rfl, hfz, hnd⟩ := hW
  have hA : DataW.TrodAll enc Tryd.prog W 0 (fun _ => true) true Tryd.f10.params.toList args.toList ds p := hA0
  rw [Tryd.params10] at hA hval
  obtain ⟨v0, vs0, d0, ds0, p0, q0, hargs, rfl, rfl, h0, r0⟩ := trodAll_cons hA
  obtain ⟨v1, vs1, d1, ds1, p1, q1, rfl, rfl, rfl, h1, r1⟩ := trodAll_cons r0
  obtain ⟨v2, vs2, d2, ds2, p2, q2, rfl, rfl, rfl, h2, r2⟩ := trodAll_cons r1
  obtain ⟨rfl, rfl, rfl⟩ := trodAll_nil r2
  obtain rfl : args = #[v0, v1, v2] := by cases args; simp_all
  obtain ⟨rfl, rfl⟩ := trodVars_none hV
  obtain ⟨a0, len0, cap0, rfl⟩ := okWide_slice Tryd.underlying42 (hval 0 42 v0 rfl rfl)
  have k0 := h0
  have lt0 : ∀ x ∈ p0, x.block < W.heap.size := by obtain ⟨m, hm⟩ := k0; exact DataW.trod_lt m _ _ _ hm
  obtain ⟨z0, w0⟩ : ∃ zs, IsRow .u8 W a0 len0 cap0 zs := by
    obtain ⟨fuel, hf⟩ := h0
    rcases open_ints Tryd.underlying42 Tryd.underlying5 (by kernel_rfl) hf with ⟨hcs, _⟩ | ⟨x, l, c, zs, hcs, _, hl, hm, hz, _, hcell, hwz⟩
    · simp [Value.cells] at hcs
      obtain ⟨rfl, rfl, rfl⟩ := hcs
      exact ⟨[], .inl ⟨rfl, rfl, rfl, rfl⟩⟩
    · simp [Value.cells] at hcs
      obtain ⟨rfl, rfl, rfl⟩ := hcs
      exact ⟨zs, .inr ⟨_, rfl, hl, hm, by simpa using hz, hcell, hwz⟩⟩
  obtain ⟨a1, rfl, rfl, rfl, w1⟩ := open_int Tryd.underlying54 (hval 1 54 v1 rfl rfl) h1
  obtain ⟨a2, rfl, rfl, rfl, w2⟩ := open_int Tryd.underlying57 (hval 2 57 v2 rfl rfl) h2
  clear hA0 hval0
  refine (walk a0 len0 cap0 z0 a1 a2 W (G.of_laid hL) w0 w1 w2).mono fun e W' ⟨he, bel⟩ => ?_
  subst he
  exact ⟨_, rfl, _, _, _, [], _, [], hW', trodAll_mk1 (shut_bool Tryd.underlying4 _), (trodAll_cons_mk (Below.trod laidOut (by kernel_rfl) (of_decide_eq_true (by kernel_rfl)) k0 bel lt0) (trodAll_cons_mk (shut_int Tryd.underlying54 w1) (trodAll_cons_mk (shut_int Tryd.underlying57 w2) trodAll_mk0))), rfl, bel.frame _, fun h => by cases h⟩

theorem over : Rows.frameBurstsRow.holds Tryd.pinned (OpenSpec.ofChange Rows.frameBurstsSpec) :=
  OpenClaim.holds_of_wide 10 Tryd.f10 rfl rfl rfl rfl rfl rfl rfl ⟨rfl, rfl, rfl, rfl, rfl⟩ rfl rfl rfl rfl rfl (by kernel_rfl) Tryd.func10 (by kernel_rfl)
    (of_decide_eq_true (by kernel_rfl)) (by unfold Func.isWrapper; rw [if_neg (of_decide_eq_false (by kernel_rfl))]; exact ⟨rfl, rfl⟩)
    (fun os started H enc _ => lifted os started H enc)
end Go.Proofs.YtiemgdclhjdmlaaDoor.frameBursts
namespace Go.Proofs.YtiemgdclhjdmlaaDoor
open Go
set_option maxRecDepth 100000 in
theorem frameBursts_holds : Rows.FrameBurstsCardSaid :=
  Claim7.holds_tied_plain_at .later [] [.handle] true (true, "6bb8420f3958038eed9cfcd5f39460c47147c0b66445aadddf18d967e68e5430") true
    frameBursts.over (fun _ h => by cases h) (by kernel_rfl) (fun _ h => by cases h) frameBursts_row_tie rfl ⟨rfl, rfl⟩ (by kernel_rfl) rfl
    (fun f fn hf hfn => by
      obtain rfl : f = 10 := Option.some.inj ((show Tryd.prog.funcNamed Rows.frameBurstsRow.func = some 10 by kernel_rfl).symm.trans hf) |>.symm
      obtain rfl : fn = Tryd.f10 := (Option.some.inj (Tryd.func10.symm.trans hfn)).symm
      exact ⟨by kernel_rfl, fun j t ht => by
        rw [Tryd.params10] at ht
        match j, ht with
        | 0, ht =>
          obtain rfl : t = 42 := by simpa using ht.symm
          exact (show Tryd.prog.wantsStandIn 42 = false by kernel_rfl)
        | 1, ht =>
          obtain rfl : t = 54 := by simpa using ht.symm
          exact (show Tryd.prog.wantsStandIn 54 = false by kernel_rfl)
        | 2, ht =>
          obtain rfl : t = 57 := by simpa using ht.symm
          exact (show Tryd.prog.wantsStandIn 57 = false by kernel_rfl)
        | j + 3, ht => simp at ht⟩)
    (by kernel_rfl)
#print axioms frameBursts_holds
end Go.Proofs.YtiemgdclhjdmlaaDoor
