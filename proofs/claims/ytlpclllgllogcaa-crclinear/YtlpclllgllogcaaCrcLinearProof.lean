/-
  For every two states and every two rows of bytes of the same length, the state behind the rows put together by exclusive or, from the states put together, is the exclusive or of both states behind (the law CrcLinear returns true and leaves its arguments as they were).
-/
import Derived.Test.YtlpclllgllogcaaRows
import Derived.WalkKit
import Derived.ProofKit
import Derived.OpenShut
import Derived.ShutString
import Derived.ChangeOld
import Derived.Below
import Derived.Test.YtlpclllgllogcaaBase
import Derived.Test.YtlpclllgllogcaaCrcF
import Derived.Test.YtlpclllgllogcaaCrcLin
namespace Go.Proofs.Ytlpclllgllogcaa.crcLinear
open Go.ChangeShapes Go.WideShapes Go.ChangeAt Go.RowKit
open Go.ChangeMaps (open_string shut_string)
set_option linter.unusedVariables false

theorem own : ownKnob Try.prog.godebug = none := by kernel_rfl
theorem laidOut : laidOutB Try.prog = true := by kernel_rfl

theorem take_zip {bs cs ds : List Nat} {k : Nat} (h : bs = List.zipWith (· ^^^ ·) cs ds) (hl : cs.length = ds.length) (hk : k < bs.length) : bs.take (k + 1) = bs.take k ++ [cs[k]?.getD 0 ^^^ ds[k]?.getD 0] := by
  subst h
  rw [List.take_succ_eq_append_getElem hk]
  simp only [List.length_zipWith] at hk
  have h1 : k < cs.length := by omega
  have h2 : k < ds.length := by omega
  simp [h1, h2]

/-! The law returns true, and writes nothing that was there. -/
set_option maxHeartbeats 1000000 in
theorem walk (a0 : Int) (a1 : Int) (a2 : Option Addr) (len2 cap2 : Nat) (z2 : List Int) (a3 : Option Addr) (len3 cap3 : Nat) (z3 : List Int) (w : World) (w0 : (Lit.int .u32 a0).wf = true) (w1 : (Lit.int .u32 a1).wf = true) (w2 : IsRow .u8 w a2 len2 cap2 z2) (w3 : IsRow .u8 w a3 len3 cap3 z3) :
    Calls Try.prog 10 #[.int .u32 a0, .int .u32 a1, .slice a2 len2 cap2, .slice a3 len3 cap3] w fun e w' => e = .returned (.bool true) ∧ Below w.heap.size w w' := by
  obtain ⟨s, rfl⟩ : ∃ s : Nat, a0 = (s : Int) := ⟨a0.toNat, by have := bounds_u32 w0; omega⟩
  have hs : s < 4294967296 := by have := bounds_u32 w0; omega
  obtain ⟨t, rfl⟩ : ∃ t : Nat, a1 = (t : Int) := ⟨a1.toNat, by have := bounds_u32 w1; omega⟩
  have ht : t < 4294967296 := by have := bounds_u32 w1; omega
  have r2 := w2.row (min len2 300) (Nat.min_le_left _ _)
  have r3 := w3.row (min len3 300) (Nat.min_le_left _ _)
  have f2 := w2.facts
  have f3 := w3.facts
  have l2 : min len2 300 ≤ 300 := Nat.min_le_right _ _
  have l3 : min len3 300 ≤ 300 := Nat.min_le_right _ _
  have k2 : min len2 300 ≤ cap2 := by omega
  have k3 : min len3 300 ≤ cap3 := by omega
  go_enter Try.func10, Try.ntmps10
  go_wp2_with fail
  refine (few_any _ _ _ _ _ w2).mono ?_
  rintro e w' ⟨rfl, hw⟩
  subst w'
  go_wp2_with fail
  refine (few_any _ _ _ _ _ w3).mono ?_
  rintro e w' ⟨rfl, hw⟩
  subst w'
  clear w2 w3
  generalize firsts z2 (min len2 300) = bs2 at r2
  generalize firsts z3 (min len3 300) = bs3 at r3
  generalize min len2 300 = n2 at r2 l2 k2 ⊢
  generalize min len3 300 = n3 at r3 l3 k3 ⊢
  by_cases h : n3 < n2
  · go_wp2_with fail
    obtain ⟨bs, hbs⟩ : ∃ bs, bs = List.zipWith (· ^^^ ·) (bs2.take n3) (bs3.take n3) := ⟨_, rfl⟩
    have p2 := r2.take n3 (by omega)
    have p3 := r3.take n3 (by omega)
    have HB : Hid (bs = _) := hbs
    clear hbs
    have hlen : bs.length = n3 := by rw [HB.out]; have := p2.1; have := p3.1; simp only [List.length_zipWith]; omega
    have HL : Hid (bs.length = n3) := hlen
    clear hlen r2 r3
    go_loopw [9, 30] (fun v i wr => ∃ k : Nat, k ≤ n3 ∧ i = .int .i64 k ∧ Own wr w.heap.size v (bs.take k) ∧ Below w.heap.size w wr) (fun _ i _ => n3 - (intOf i).toNat)
    case atStart => exact ⟨0, Nat.zero_le _, rfl, Own.nil _ _, Below.refl _ _⟩
    case round =>
      obtain ⟨k, hk, rfl, ho, hb⟩ := hrel
      by_cases hlt : k < n3
      · obtain ⟨b2, o2, rfl, hc2⟩ := p2.at (by omega)
        obtain ⟨b3, o3, rfl, hc3⟩ := p3.at (by omega)
        have hq2 := hc2 k hlt
        have hq3 := hc3 k hlt
        have g2 := cell_later hb (hc2 k hlt)
        have g3 := cell_later hb (hc3 k hlt)
        have e2 := getD_lt _ p2.2.1 k
        have e3 := getD_lt _ p3.2.1 k
        have HT : Hid (bs.take (k + 1) = bs.take k ++ [(bs2.take n3)[k]?.getD 0 ^^^ (bs3.take n3)[k]?.getD 0]) := take_zip HB.out (by have := p2.1; have := p3.1; omega) (by have := HL.out; omega)
        clear hc2 hc3
        generalize (bs2.take n3)[k]?.getD 0 = x at g2 e2 HT
        generalize (bs3.take n3)[k]?.getD 0 = y at g3 e3 HT
        have hxy : bits .xor .u8 (x : Int) (y : Int) = ((x ^^^ y : Nat) : Int) := u8_xor_nat x y e2 e3
        have hlt8 : x ^^^ y < 256 := by have : x ^^^ y < 2 ^ 8 := Nat.xor_lt_two_pow (by omega) (by omega); omega
        have hk0 : (0 : Int) ≤ (k : Int) := Int.natCast_nonneg _
        have hk1 : (k : Int) < (n3 : Int) := by omega
        have hrow := Row.one wr (x ^^^ y) hlt8
        have hsz := hb.size
        have q2 : (⟨b2, o2 + k, none⟩ : Addr).block < w.heap.size := World.block_lt_of_cell? _ _ hq2
        have q3 : (⟨b3, o3 + k, none⟩ : Addr).block < w.heap.size := World.block_lt_of_cell? _ _ hq3
        clear hq2 hq3
        have hbd : (bs.take k).length + 1 ≤ 140737488355328 := by have := HL.out; simp; omega
        have HBD : Hid ((bs.take k).length + 1 ≤ 140737488355328) := hbd
        clear hbd
        go_wp2_with fail
        go_region_held3 (fun w' => w'.cell? ⟨b2, o2 + k, none⟩ = some (.int .u8 (x : Nat)) ∧ w'.cell? ⟨b3, o3 + k, none⟩ = some (.int .u8 (y : Nat)))
          (first | exact ⟨(hb2.cell q2).trans (cell_later (((Below.refl _ _).alloc (Nat.le_refl _) _).drew) g2), (hb2.cell q3).trans (cell_later (((Below.refl _ _).alloc (Nat.le_refl _) _).drew) g3)⟩ | go_keep)
          ((refine step_append_row (by rfl) _ _ (by rfl) w.heap.size _ _ (by rfl) (ho.alloc _).drew _ _ _ _ (by rfl) hrow.drew (by simp) HBD.out (by simp; omega) ?_; intro v2 w2 ho2 hb2))
        go_wp2
        have ho3 : Own w2 w.heap.size v2 (bs.take (k + 1)) := by rw [HT.out]; exact ho2
        go_roundw
        case rel => exact ⟨k + 1, by omega, by go_num, ho3, ((hb.alloc hsz _).drew).trans hb2⟩
        case measure => simp [intOf]; omega
      · obtain rfl : n3 = k := by omega
        rw [List.take_of_length_le (by have := HL.out; omega)] at ho
        obtain ⟨a, n, cap, rfl, r, hc, hm, _, _⟩ := ho.slice
        have hx : bits .xor .u32 (s : Int) (t : Int) = ((s ^^^ t : Nat) : Int) := u32_xor_nat s t hs ht
        have hst : s ^^^ t < 4294967296 := by have : s ^^^ t < 2 ^ 32 := Nat.xor_lt_two_pow (by omega) (by omega); omega
        have hM := Crc.more_xor (bs2.take n3) (bs3.take n3) s t (by have := p2.1; have := p3.1; omega)
        rw [← HB.out] at hM
        have HM : Hid (_ = _) := hM
        clear hM
        have d2 := Crc.more_lt _ s hs p2.2.1
        have d3 := Crc.more_lt _ t ht p3.2.1
        go_wp2_with fail
        refine (more_any _ _ _ _ _ _ hst r).mono ?_
        rintro e w' ⟨rfl, hw⟩
        subst w'
        go_wp2_with fail
        refine (more_any _ _ _ _ _ _ hs (p2.later hb)).mono ?_
        rintro e w' ⟨rfl, hw⟩
        subst w'
        go_wp2_with fail
        refine (more_any _ _ _ _ _ _ ht (p3.later hb)).mono ?_
        rintro e w' ⟨rfl, hw⟩
        subst w'
        rw [HM.out]
        have hx2 := u32_xor_nat _ _ d2 d3
        go_wp2_with fail
        refine (awake_any _).mono ?_
        rintro e w4 ⟨rfl, hb4⟩
        go_wp2
        go_ret
        exact ⟨rfl, hb.trans (hb4.mono hb.size)⟩
  · go_wp2_with fail
    obtain ⟨bs, hbs⟩ : ∃ bs, bs = List.zipWith (· ^^^ ·) (bs2.take n2) (bs3.take n2) := ⟨_, rfl⟩
    have p2 := r2.take n2 (by omega)
    have p3 := r3.take n2 (by omega)
    have HB : Hid (bs = _) := hbs
    clear hbs
    have hlen : bs.length = n2 := by rw [HB.out]; have := p2.1; have := p3.1; simp only [List.length_zipWith]; omega
    have HL : Hid (bs.length = n2) := hlen
    clear hlen r2 r3
    go_loopw [9, 30] (fun v i wr => ∃ k : Nat, k ≤ n2 ∧ i = .int .i64 k ∧ Own wr w.heap.size v (bs.take k) ∧ Below w.heap.size w wr) (fun _ i _ => n2 - (intOf i).toNat)
    case atStart => exact ⟨0, Nat.zero_le _, rfl, Own.nil _ _, Below.refl _ _⟩
    case round =>
      obtain ⟨k, hk, rfl, ho, hb⟩ := hrel
      by_cases hlt : k < n2
      · obtain ⟨b2, o2, rfl, hc2⟩ := p2.at (by omega)
        obtain ⟨b3, o3, rfl, hc3⟩ := p3.at (by omega)
        have hq2 := hc2 k hlt
        have hq3 := hc3 k hlt
        have g2 := cell_later hb (hc2 k hlt)
        have g3 := cell_later hb (hc3 k hlt)
        have e2 := getD_lt _ p2.2.1 k
        have e3 := getD_lt _ p3.2.1 k
        have HT : Hid (bs.take (k + 1) = bs.take k ++ [(bs2.take n2)[k]?.getD 0 ^^^ (bs3.take n2)[k]?.getD 0]) := take_zip HB.out (by have := p2.1; have := p3.1; omega) (by have := HL.out; omega)
        clear hc2 hc3
        generalize (bs2.take n2)[k]?.getD 0 = x at g2 e2 HT
        generalize (bs3.take n2)[k]?.getD 0 = y at g3 e3 HT
        have hxy : bits .xor .u8 (x : Int) (y : Int) = ((x ^^^ y : Nat) : Int) := u8_xor_nat x y e2 e3
        have hlt8 : x ^^^ y < 256 := by have : x ^^^ y < 2 ^ 8 := Nat.xor_lt_two_pow (by omega) (by omega); omega
        have hk0 : (0 : Int) ≤ (k : Int) := Int.natCast_nonneg _
        have hk1 : (k : Int) < (n2 : Int) := by omega
        have hrow := Row.one wr (x ^^^ y) hlt8
        have hsz := hb.size
        have q2 : (⟨b2, o2 + k, none⟩ : Addr).block < w.heap.size := World.block_lt_of_cell? _ _ hq2
        have q3 : (⟨b3, o3 + k, none⟩ : Addr).block < w.heap.size := World.block_lt_of_cell? _ _ hq3
        clear hq2 hq3
        have hbd : (bs.take k).length + 1 ≤ 140737488355328 := by have := HL.out; simp; omega
        have HBD : Hid ((bs.take k).length + 1 ≤ 140737488355328) := hbd
        clear hbd
        go_wp2_with fail
        go_region_held3 (fun w' => w'.cell? ⟨b2, o2 + k, none⟩ = some (.int .u8 (x : Nat)) ∧ w'.cell? ⟨b3, o3 + k, none⟩ = some (.int .u8 (y : Nat)))
          (first | exact ⟨(hb2.cell q2).trans (cell_later (((Below.refl _ _).alloc (Nat.le_refl _) _).drew) g2), (hb2.cell q3).trans (cell_later (((Below.refl _ _).alloc (Nat.le_refl _) _).drew) g3)⟩ | go_keep)
          ((refine step_append_row (by rfl) _ _ (by rfl) w.heap.size _ _ (by rfl) (ho.alloc _).drew _ _ _ _ (by rfl) hrow.drew (by simp) HBD.out (by simp; omega) ?_; intro v2 w2 ho2 hb2))
        go_wp2
        have ho3 : Own w2 w.heap.size v2 (bs.take (k + 1)) := by rw [HT.out]; exact ho2
        go_roundw
        case rel => exact ⟨k + 1, by omega, by go_num, ho3, ((hb.alloc hsz _).drew).trans hb2⟩
        case measure => simp [intOf]; omega
      · obtain rfl : n2 = k := by omega
        rw [List.take_of_length_le (by have := HL.out; omega)] at ho
        obtain ⟨a, n, cap, rfl, r, hc, hm, _, _⟩ := ho.slice
        have hx : bits .xor .u32 (s : Int) (t : Int) = ((s ^^^ t : Nat) : Int) := u32_xor_nat s t hs ht
        have hst : s ^^^ t < 4294967296 := by have : s ^^^ t < 2 ^ 32 := Nat.xor_lt_two_pow (by omega) (by omega); omega
        have hM := Crc.more_xor (bs2.take n2) (bs3.take n2) s t (by have := p2.1; have := p3.1; omega)
        rw [← HB.out] at hM
        have HM : Hid (_ = _) := hM
        clear hM
        have d2 := Crc.more_lt _ s hs p2.2.1
        have d3 := Crc.more_lt _ t ht p3.2.1
        go_wp2_with fail
        refine (more_any _ _ _ _ _ _ hst r).mono ?_
        rintro e w' ⟨rfl, hw⟩
        subst w'
        go_wp2_with fail
        refine (more_any _ _ _ _ _ _ hs (p2.later hb)).mono ?_
        rintro e w' ⟨rfl, hw⟩
        subst w'
        go_wp2_with fail
        refine (more_any _ _ _ _ _ _ ht (p3.later hb)).mono ?_
        rintro e w' ⟨rfl, hw⟩
        subst w'
        rw [HM.out]
        have hx2 := u32_xor_nat _ _ d2 d3
        go_wp2_with fail
        refine (awake_any _).mono ?_
        rintro e w4 ⟨rfl, hb4⟩
        go_wp2
        go_ret
        exact ⟨rfl, hb.trans (hb4.mono hb.size)⟩

/-! From the call to the statement. -/
set_option maxRecDepth 100000 in
theorem lifted (os : Os) (started : os.Started) (H : Type) (enc : TypeId × Value → H) :
    ReturnsInHanded {} Try.checked os 10 .any (Rows.crcLinearSpec.pre6 enc Try.prog Try.f10 Rows.crcLinearRow.domain false) (Rows.crcLinearSpec.post enc Try.prog Try.f10 false true false false) := by
  refine returnsInHanded_of_change (C := Try.checked) own started (by kernel_rfl) Try.func10
    (ChangeSpec.witness6 (enc := enc) (C := Try.checked) false ⟨#[], #[.int .u32 0, .int .u32 0, .slice none 0 0, .slice none 0 0], []⟩ 8 (by kernel_rfl) (by kernel_rfl) (by kernel_rfl) (by kernel_rfl)) ?_
  intro W base args ds gs before hval0 hW hcnd _
  have hval : ∀ (j : Nat) t v, Try.f10.params[j]? = some t → args[j]? = some v → Value.okWide Try.prog W .any base t v := hval0
  have hW' := hW
  obtain ⟨p, q, hA0, hV, rfl, hfz, hnd⟩ := hW
  have hA : DataW.TrodAll enc Try.prog W 0 (fun _ => true) true Try.f10.params.toList args.toList ds p := hA0
  rw [Try.params10] at hA hval
  obtain ⟨v0, vs0, d0, ds0, p0, q0, hargs, rfl, rfl, h0, r0⟩ := trodAll_cons hA
  obtain ⟨v1, vs1, d1, ds1, p1, q1, rfl, rfl, rfl, h1, r1⟩ := trodAll_cons r0
  obtain ⟨v2, vs2, d2, ds2, p2, q2, rfl, rfl, rfl, h2, r2⟩ := trodAll_cons r1
  obtain ⟨v3, vs3, d3, ds3, p3, q3, rfl, rfl, rfl, h3, r3⟩ := trodAll_cons r2
  obtain ⟨rfl, rfl, rfl⟩ := trodAll_nil r3
  obtain rfl : args = #[v0, v1, v2, v3] := by cases args; simp_all
  obtain ⟨rfl, rfl⟩ := trodVars_none hV
  obtain ⟨a0, rfl, rfl, rfl, w0⟩ := open_int Try.underlying47 (hval 0 47 v0 rfl rfl) h0
  obtain ⟨a1, rfl, rfl, rfl, w1⟩ := open_int Try.underlying47 (hval 1 47 v1 rfl rfl) h1
  obtain ⟨a2, len2, cap2, rfl⟩ := okWide_slice Try.underlying22 (hval 2 22 v2 rfl rfl)
  have k2 := h2
  have lt2 : ∀ x ∈ p2, x.block < W.heap.size := by obtain ⟨m, hm⟩ := k2; exact DataW.trod_lt m _ _ _ hm
  obtain ⟨z2, w2⟩ : ∃ zs, IsRow .u8 W a2 len2 cap2 zs := by
    obtain ⟨fuel, hf⟩ := h2
    rcases open_ints Try.underlying22 Try.underlying5 (by kernel_rfl) hf with ⟨hcs, _⟩ | ⟨x, l, c, zs, hcs, _, hl, hm, hz, _, hcell, hwz⟩
    · simp [Value.cells] at hcs
      obtain ⟨rfl, rfl, rfl⟩ := hcs
      exact ⟨[], .inl ⟨rfl, rfl, rfl, rfl⟩⟩
    · simp [Value.cells] at hcs
      obtain ⟨rfl, rfl, rfl⟩ := hcs
      exact ⟨zs, .inr ⟨_, rfl, hl, hm, by simpa using hz, hcell, hwz⟩⟩
  obtain ⟨a3, len3, cap3, rfl⟩ := okWide_slice Try.underlying22 (hval 3 22 v3 rfl rfl)
  have k3 := h3
  have lt3 : ∀ x ∈ p3, x.block < W.heap.size := by obtain ⟨m, hm⟩ := k3; exact DataW.trod_lt m _ _ _ hm
  obtain ⟨z3, w3⟩ : ∃ zs, IsRow .u8 W a3 len3 cap3 zs := by
    obtain ⟨fuel, hf⟩ := h3
    rcases open_ints Try.underlying22 Try.underlying5 (by kernel_rfl) hf with ⟨hcs, _⟩ | ⟨x, l, c, zs, hcs, _, hl, hm, hz, _, hcell, hwz⟩
    · simp [Value.cells] at hcs
      obtain ⟨rfl, rfl, rfl⟩ := hcs
      exact ⟨[], .inl ⟨rfl, rfl, rfl, rfl⟩⟩
    · simp [Value.cells] at hcs
      obtain ⟨rfl, rfl, rfl⟩ := hcs
      exact ⟨zs, .inr ⟨_, rfl, hl, hm, by simpa using hz, hcell, hwz⟩⟩
  clear hA0 hval0
  refine (walk a0 a1 a2 len2 cap2 z2 a3 len3 cap3 z3 W w0 w1 w2 w3).mono fun e W' ⟨he, bel⟩ => ?_
  subst he
  exact ⟨_, rfl, _, _, _, [], _, [], hW', trodAll_mk1 (shut_bool Try.underlying4 _), (trodAll_cons_mk (shut_int Try.underlying47 w0) (trodAll_cons_mk (shut_int Try.underlying47 w1) (trodAll_cons_mk (Below.trod laidOut (by kernel_rfl) (of_decide_eq_true (by kernel_rfl)) k2 bel lt2) (trodAll_cons_mk (Below.trod laidOut (by kernel_rfl) (of_decide_eq_true (by kernel_rfl)) k3 bel lt3) trodAll_mk0)))), rfl, bel.frame _, fun h => by cases h⟩

theorem over : Rows.crcLinearRow.holds Try.pinned (OpenSpec.ofChange Rows.crcLinearSpec) :=
  OpenClaim.holds_of_wide 10 Try.f10 rfl rfl rfl rfl rfl rfl rfl ⟨rfl, rfl, rfl, rfl, rfl⟩ rfl rfl rfl rfl rfl (by kernel_rfl) Try.func10 (by kernel_rfl)
    (of_decide_eq_true (by kernel_rfl)) (by unfold Func.isWrapper; first | (rw [if_pos (by decide +kernel)]; kernel_rfl) | (rw [if_neg (by decide +kernel)]; exact ⟨rfl, rfl⟩))
    (fun os started H enc _ => lifted os started H enc)

end Go.Proofs.Ytlpclllgllogcaa.crcLinear
namespace Go.Proofs.Ytlpclllgllogcaa
theorem crcLinear_holds : Rows.CrcLinearSaid := crcLinear.over
#print axioms crcLinear_holds
end Go.Proofs.Ytlpclllgllogcaa
