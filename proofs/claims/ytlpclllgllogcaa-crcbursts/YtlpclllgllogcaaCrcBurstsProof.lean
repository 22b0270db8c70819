/-
  For every row of bytes, every place and every pattern of bits: the sealed bytes of which some bits, at least one, within 32 next to one another are turned are not whole (the law CrcBursts returns true and leaves its arguments as they were).
-/
import Derived.Test.YtlpclllgllogcaaRows
import Derived.WalkKit
import Derived.ProofKit
import Derived.OpenShut
import Derived.ShutString
import Derived.ChangeOld
import Derived.Below
import Derived.Test.YtlpclllgllogcaaBase
import Derived.Test.YtlpclllgllogcaaCrcF
import Derived.Test.YtlpclllgllogcaaCrcBur
namespace Go.Proofs.Ytlpclllgllogcaa.crcBursts
open Go.ChangeShapes Go.WideShapes Go.ChangeAt Go.RowKit
open Go.ChangeMaps (open_string shut_string)
set_option linter.unusedSimpArgs false
set_option linter.unusedVariables false

theorem own : ownKnob Try.prog.godebug = none := by kernel_rfl
theorem laidOut : laidOutB Try.prog = true := by kernel_rfl

/-! The law returns true, and writes nothing that was there. -/
set_option maxHeartbeats 2000000 in
theorem walk (a0 : Option Addr) (len0 cap0 : Nat) (z0 : List Int) (a1 : Int) (a2 : Int) (w : World) (w0 : IsRow .u8 w a0 len0 cap0 z0) (w1 : (Lit.int .u16 a1).wf = true) (w2 : (Lit.int .u32 a2).wf = true) :
    Calls Try.prog 12 #[.slice a0 len0 cap0, .int .u16 a1, .int .u32 a2] w fun e w' => e = .returned (.bool true) ∧ Below w.heap.size w w' := by
  obtain ⟨at0, rfl⟩ : ∃ t : Nat, a1 = (t : Int) := ⟨a1.toNat, by have := bounds_u16 w1; omega⟩
  have hat : at0 < 65536 := by have := bounds_u16 w1; omega
  obtain ⟨t, rfl⟩ : ∃ t : Nat, a2 = (t : Int) := ⟨a2.toNat, by have := bounds_u32 w2; omega⟩
  have ht : t < 4294967296 := by have := bounds_u32 w2; omega
  have r0 := w0.row (min len0 300) (Nat.min_le_left _ _)
  have f0 := w0.facts
  have l0 : min len0 300 ≤ 300 := Nat.min_le_right _ _
  have ho0 := Own.new w w.heap.size (Nat.le_refl _) #[] [] rfl (by simp) (by simp)
  have hb0 : Below w.heap.size w (w.alloc (.cells #[] 5)) := (Below.refl _ _).alloc (Nat.le_refl _) _
  go_enter Try.func12, Try.ntmps12
  go_wp2_with fail
  refine (few_any _ _ _ _ _ (w0.later hb0)).mono ?_
  rintro e w' ⟨rfl, hw⟩
  subst w'
  clear w0
  generalize firsts z0 (min len0 300) = bs at r0
  generalize min len0 300 = n at r0 l0 ⊢
  have q0 := r0.later hb0
  clear r0
  go_wp2_with fail
  refine (seal_any _ _ _ _ _ q0 f0.2.2 (by omega)).mono ?_
  rintro e W1 ⟨v, rfl, ho, hb⟩
  obtain ⟨sa, n1, cap1, rfl, r1, hc1, hm1, hz1, _⟩ := ho.slice
  have hws := Crc.whole_sealed bs q0.2.1
  have hlen : (bs ++ Crc.four (Crc.of bs)).length = n + 4 := by have := q0.1; simp [Crc.four]; omega
  generalize bs ++ Crc.four (Crc.of bs) = sl at r1 hws hlen ho
  have hb1 : Below w.heap.size w W1 := hb0.trans (hb.mono hb0.size)
  have ho1 := ho0.later hb
  have hn1 : ([] : List Nat).length + n1 ≤ 140737488355328 := by have := r1.1; simp; omega
  clear ho0 hb0 ho hb
  obtain ⟨N, hN, hN4, hN3⟩ : ∃ N, ([] ++ sl).length = N ∧ 4 ≤ N ∧ N ≤ 304 := ⟨_, rfl, by simp; omega, by simp; omega⟩
  have hN5 : (4 : Int) ≤ (N : Int) := by omega
  clear hlen
  by_cases h0 : t = 0
  · subst h0
    go_wp2_with (at_builtin; refine wp_append_at rfl _ _ rfl w.heap.size _ _ rfl ho1 _ _ _ _ rfl r1 hz1 hn1 hb1.size N hN (by omega) ?_; intro g cap2 w2 hg hc2 hm2 ho2 hb2)
    refine (awake_any _).mono ?_
    rintro e w4 ⟨rfl, hb4⟩
    go_wp2
    go_ret
    exact ⟨rfl, hb1.trans (hb2.trans (hb4.mono (hb1.trans hb2).size))⟩
  · have hti : ((t : Int) == 0) = false := by simp; omega
    go_wp2_with (at_builtin; refine wp_append_at rfl _ _ rfl w.heap.size _ _ rfl ho1 _ _ _ _ rfl r1 hz1 hn1 hb1.size N hN (by omega) ?_; intro g cap2 w2 hg hc2 hm2 ho2 hb2)
    have hfr : (at0 : Int) % (8 * (N : Int) - 31) = ((at0 % (8 * N - 31) : Nat) : Int) := by
      have e : (8 * (N : Int) - 31) = ((8 * N - 31 : Nat) : Int) := by omega
      rw [e]
      simp
    have hfl : at0 % (8 * N - 31) < 8 * N - 31 := Nat.mod_lt _ (by omega)
    rw [hfr]
    generalize at0 % (8 * N - 31) = fr at hfl ⊢
    clear hfr
    rw [List.nil_append] at ho2
    have hb3 := hb1.trans hb2
    clear ho1 hb2 hb1 r1 hz1 hn1 q0 hN
    go_loopw [9] (fun i wr => ∃ (k : Nat) (cs : List Nat), k ≤ 32 ∧ i = .int .i64 k ∧ Own wr w.heap.size (.slice (some ⟨g, 0, none⟩) N cap2) cs ∧ Hid (Crc.low cs = Crc.low sl ^^^ 2 ^ fr * (t % 2 ^ k)) ∧ Below w.heap.size w wr) (fun i _ => 32 - (intOf i).toNat)
    case atStart => exact ⟨0, _, Nat.zero_le _, rfl, ho2, by simp [Hid, Nat.mod_one], hb3⟩
    case round =>
      obtain ⟨k, cs, hk, rfl, hos, HX, hbs⟩ := hrel
      by_cases hlt : k < 32
      · obtain ⟨j, hj⟩ : ∃ j : Nat, j = (fr + k) / 8 := ⟨_, rfl⟩
        obtain ⟨r, hr⟩ : ∃ r : Nat, r = (fr + k) % 8 := ⟨_, rfl⟩
        have hji : ((fr : Int) + (k : Int)) / 8 = (j : Int) := by omega
        have hri : ((fr : Int) + (k : Int)) % 8 = (r : Int) := by omega
        have hjN : (j : Int) < (N : Int) := by omega
        have hj0 : (0 : Int) ≤ (j : Int) := by omega
        have hr8 : r < 8 := by omega
        have HJ : Hid (8 * j + r = fr + k) := by unfold Hid; omega
        clear hj hr
        have hcell := hos.cellAt j (by omega)
        have hfz := hos.frozenAt j
        have hxl := getD_lt cs hos.2 j
        have HT : Hid (_ = _) := Crc.low_set cs j r hos.2 (by have := hos.length; omega) hr8
        generalize cs[j]?.getD 0 = x at hcell hxl HT
        rcases Nat.mod_two_eq_zero_or_one (t / 2 ^ k) with hb0 | hb1
        · have hbit : bits .and .u32 ((t : Int) / 2 ^ k) 1 = 0 := by
            have := u32_and_nat (t / 2 ^ k) 1 (Nat.lt_of_le_of_lt (Nat.div_le_self _ _) ht) (by omega)
            rw [Nat.and_one_is_mod, hb0] at this
            simpa using this
          go_wp2
          go_roundw
          case rel => exact ⟨k + 1, cs, by omega, by go_num, hos, by unfold Hid; rw [HX.out, Crc.bits_off t k hb0], hbs⟩
          case measure => simp [intOf]; omega
        · have hbit : bits .and .u32 ((t : Int) / 2 ^ k) 1 = 1 := by
            have := u32_and_nat (t / 2 ^ k) 1 (Nat.lt_of_le_of_lt (Nat.div_le_self _ _) ht) (by omega)
            rw [Nat.and_one_is_mod, hb1] at this
            simpa using this
          have h2r : 2 ^ r < 256 := by have : 2 ^ r < 2 ^ 8 := Nat.pow_lt_pow_right (by omega) hr8; omega
          have hxx : bits .xor .u8 (x : Int) (2 ^ r % 256) = ((x ^^^ 2 ^ r : Nat) : Int) := by
            have h3 := u8_xor_nat x (2 ^ r) hxl h2r
            have h4 : (2 ^ r : Int) % 256 = ((2 ^ r : Nat) : Int) := by
              have h5 : ((2 ^ r : Nat) : Int) = (2 : Int) ^ r := by simp
              rw [← h5]
              generalize 2 ^ r = y at h2r ⊢
              omega
            rw [h4]
            exact h3
          have hx8 : x ^^^ 2 ^ r < 256 := by have : x ^^^ 2 ^ r < 2 ^ 8 := Nat.xor_lt_two_pow (by omega) (by omega); omega
          have st := hos.stored hg j (x ^^^ 2 ^ r) hx8
          have HXX : Hid (_ = _) := hxx
          clear hxx
          go_wp2
          go_roundw
          case rel => exact ⟨k + 1, _, by omega, by go_num, by rw [HXX.out]; exact st.1, by unfold Hid; rw [HT.out, HX.out, HJ.out, Crc.bits_on fr t k hb1, Nat.xor_assoc], by rw [HXX.out]; exact hbs.trans st.2⟩
          case measure => simp [intOf]; omega
      · obtain rfl : k = 32 := by omega
        have hwc : Crc.whole cs = false := Crc.burst sl cs fr t ho2.2 hos.2 (by rw [hos.length, ho2.length]) (by rw [HX.out]; congr 2; omega) (by rw [ho2.length]; omega) h0 ht hws
        go_wp2_with fail
        refine (whole_any _ _ _ _ _ hos.row hc2 hm2).mono ?_
        rw [hwc]
        rintro e w' ⟨rfl, q, hw⟩
        subst w'
        go_wp2_with fail
        refine (awake_any _).mono ?_
        rintro e w4 ⟨rfl, hb4⟩
        go_wp2
        go_ret
        exact ⟨rfl, hbs.trans ((below_drewN (Below.refl _ _) _).trans (hb4.mono hbs.size))⟩

/-! From the call to the statement. -/
set_option maxRecDepth 100000 in
theorem lifted (os : Os) (started : os.Started) (H : Type) (enc : TypeId × Value → H) :
    ReturnsInHanded {} Try.checked os 12 .any (Rows.crcBurstsSpec.pre6 enc Try.prog Try.f12 Rows.crcBurstsRow.domain false) (Rows.crcBurstsSpec.post enc Try.prog Try.f12 false true false false) := by
  refine returnsInHanded_of_change (C := Try.checked) own started (by kernel_rfl) Try.func12
    (ChangeSpec.witness6 (enc := enc) (C := Try.checked) false ⟨#[], #[.slice none 0 0, .int .u16 0, .int .u32 0], []⟩ 8 (by kernel_rfl) (by kernel_rfl) (by kernel_rfl) (by kernel_rfl)) ?_
  intro W base args ds gs before hval0 hW hcnd _
  have hval : ∀ (j : Nat) t v, Try.f12.params[j]? = some t → args[j]? = some v → Value.okWide Try.prog W .any base t v := hval0
  have hW' := hW
  obtain ⟨p, q, hA0, hV, rfl, hfz, hnd⟩ := hW
  have hA : DataW.TrodAll enc Try.prog W 0 (fun _ => true) true Try.f12.params.toList args.toList ds p := hA0
  rw [Try.params12] at hA hval
  obtain ⟨v0, vs0, d0, ds0, p0, q0, hargs, rfl, rfl, h0, r0⟩ := trodAll_cons hA
  obtain ⟨v1, vs1, d1, ds1, p1, q1, rfl, rfl, rfl, h1, r1⟩ := trodAll_cons r0
  obtain ⟨v2, vs2, d2, ds2, p2, q2, rfl, rfl, rfl, h2, r2⟩ := trodAll_cons r1
  obtain ⟨rfl, rfl, rfl⟩ := trodAll_nil r2
  obtain rfl : args = #[v0, v1, v2] := by cases args; simp_all
  obtain ⟨rfl, rfl⟩ := trodVars_none hV
  obtain ⟨a0, len0, cap0, rfl⟩ := okWide_slice Try.underlying22 (hval 0 22 v0 rfl rfl)
  have k0 := h0
  have lt0 : ∀ x ∈ p0, x.block < W.heap.size := by obtain ⟨m, hm⟩ := k0; exact DataW.trod_lt m _ _ _ hm
  obtain ⟨z0, w0⟩ : ∃ zs, IsRow .u8 W a0 len0 cap0 zs := by
    obtain ⟨fuel, hf⟩ := h0
    rcases open_ints Try.underlying22 Try.underlying5 (by kernel_rfl) hf with ⟨hcs, _⟩ | ⟨x, l, c, zs, hcs, _, hl, hm, hz, _, hcell, hwz⟩
    · simp [Value.cells] at hcs
      obtain ⟨rfl, rfl, rfl⟩ := hcs
      exact ⟨[], .inl ⟨rfl, rfl, rfl, rfl⟩⟩
    · simp [Value.cells] at hcs
      obtain ⟨rfl, rfl, rfl⟩ := hcs
      exact ⟨zs, .inr ⟨_, rfl, hl, hm, by simpa using hz, hcell, hwz⟩⟩
  obtain ⟨a1, rfl, rfl, rfl, w1⟩ := open_int Try.underlying54 (hval 1 54 v1 rfl rfl) h1
  obtain ⟨a2, rfl, rfl, rfl, w2⟩ := open_int Try.underlying47 (hval 2 47 v2 rfl rfl) h2
  clear hA0 hval0
  refine (walk a0 len0 cap0 z0 a1 a2 W w0 w1 w2).mono fun e W' ⟨he, bel⟩ => ?_
  subst he
  exact ⟨_, rfl, _, _, _, [], _, [], hW', trodAll_mk1 (shut_bool Try.underlying4 _), (trodAll_cons_mk (Below.trod laidOut (by kernel_rfl) (of_decide_eq_true (by kernel_rfl)) k0 bel lt0) (trodAll_cons_mk (shut_int Try.underlying54 w1) (trodAll_cons_mk (shut_int Try.underlying47 w2) trodAll_mk0))), rfl, bel.frame _, fun h => by cases h⟩

theorem over : Rows.crcBurstsRow.holds Try.pinned (OpenSpec.ofChange Rows.crcBurstsSpec) :=
  OpenClaim.holds_of_wide 12 Try.f12 rfl rfl rfl rfl rfl rfl rfl ⟨rfl, rfl, rfl, rfl, rfl⟩ rfl rfl rfl rfl rfl (by kernel_rfl) Try.func12 (by kernel_rfl)
    (of_decide_eq_true (by kernel_rfl)) (by unfold Func.isWrapper; first | (rw [if_pos (by decide +kernel)]; kernel_rfl) | (rw [if_neg (by decide +kernel)]; exact ⟨rfl, rfl⟩))
    (fun os started H enc _ => lifted os started H enc)

end Go.Proofs.Ytlpclllgllogcaa.crcBursts
namespace Go.Proofs.Ytlpclllgllogcaa
theorem crcBursts_holds : Rows.CrcBurstsSaid := crcBursts.over
#print axioms crcBursts_holds
end Go.Proofs.Ytlpclllgllogcaa
