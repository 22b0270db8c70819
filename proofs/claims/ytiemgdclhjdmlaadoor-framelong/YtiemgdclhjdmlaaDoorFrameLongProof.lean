/-
  FrameLong: for every size and every byte the law returns true; condition: the variable errors.errorType lies as the text of package errors lays it (a tied card).
-/
import Derived.Test.YtiemgdclhjdmlaaDoorRows
import Derived.Test.YtiemgdclhjdmlaaDoorCards
import Derived.Test.YtiemgdclhjdmlaaDoorTie
import Derived.Test.YtiemgdclhjdmlaaDoorDoor
import Derived.Test.YtiemgdclhjdmlaaDoorFrC
import Derived.WalkKit
import Derived.ProofKit
import Derived.OpenShut
import Derived.ShutString
import Derived.ChangeOld
import Derived.Below
import Derived.SevenTiedAt
namespace Go.Proofs.YtiemgdclhjdmlaaDoor.frameLong
open Go.ChangeShapes Go.WideShapes Go.ChangeAt Go.RowKit
open Go.ChangeMaps (open_string shut_string)
set_option linter.unusedSimpArgs false
set_option linter.unusedVariables false

theorem laidOut : laidOutB Tryd.prog = true := by kernel_rfl

theorem made_zeros (n : Nat) : (madeCells (Value.cells (.int .u8 0)) (n * 1)).toList = cellsOf (List.replicate n 0) := by
  apply List.ext_getElem?
  intro j
  rw [Array.getElem?_toList]
  by_cases hj : j < n
  · simp [madeCells, hj, Nat.mod_one, cellsOf, Value.cells]
  · simp [madeCells, hj, cellsOf]

theorem make_zeros (n : Nat) (w : World) (h : n ≤ 100000) :
    ∃ w', (Instr.makeSlice 42 (.int .i64 (n : Int)) (.int .i64 (n : Int))).run Tryd.prog w = .ok (.slice (some ⟨w.heap.size, 0, none⟩) n n) w' ∧
      Own w' w.heap.size (.slice (some ⟨w.heap.size, 0, none⟩) n n) (List.replicate n 0) ∧ Below w.heap.size w w' := by
  obtain ⟨i0, hi, hz0, hz1, hz2⟩ := info_parts Tryd.info5
  obtain ⟨w', h1, h2, h3⟩ := run_make_full (P := Tryd.prog) w w.heap.size 42 5 i0 (.int .u8 0) 1 Tryd.underlying42 hi hz0 hz1 .i64 .i64 n (by rw [hz2]; omega) (by unfold maxLen; omega) (Nat.le_refl _)
  refine ⟨w', h1, ⟨?_, ?_⟩, (Below.refl _ _).grown h3 (Nat.le_refl _) (by simp)⟩
  · rw [made_zeros] at h2
    rw [List.length_replicate]
    exact h2
  · intro x hx
    have := List.eq_of_mem_replicate hx
    omega

theorem fill_set (n k c : Nat) (h : k < n) : (List.replicate k c ++ List.replicate (n - k) 0).set k c = List.replicate (k + 1) c ++ List.replicate (n - (k + 1)) 0 := by
  obtain ⟨m, hm⟩ : ∃ m, n - k = m + 1 := ⟨n - k - 1, by omega⟩
  rw [hm, show n - (k + 1) = m by omega, List.set_append_right _ _ (by simp), List.replicate_succ (n := m)]
  simp [List.replicate_succ', List.append_assoc]

/-! The law returns true, and writes nothing that was there. -/
set_option maxRecDepth 100000 in
set_option maxHeartbeats 4000000 in
theorem walk (a0 : Int) (a1 : Int) (w : World) (hg : G w) (w0 : (Lit.int .u32 a0).wf = true) (w1 : (Lit.int .u8 a1).wf = true) :
    Calls Tryd.prog 11 #[.int .u32 a0, .int .u8 a1] w fun e w' => e = .returned (.bool true) ∧ Below w.heap.size w w' := by
  obtain ⟨t, rfl⟩ : ∃ t : Nat, a0 = (t : Int) := ⟨a0.toNat, by have := bounds_u32 w0; omega⟩
  have ht : t < 4294967296 := by have := bounds_u32 w0; omega
  obtain ⟨c, rfl⟩ : ∃ c : Nat, a1 = (c : Int) := ⟨a1.toNat, by have := bounds_u8 w1; omega⟩
  have hc : c < 256 := by have := bounds_u8 w1; omega
  have HG : Hid (G w) := hg
  obtain ⟨n, hn⟩ : ∃ n : Nat, t % 70000 = n := ⟨_, rfl⟩
  have hmod : (t : Int) % 70000 = (n : Int) := by omega
  have hn7 : n < 70000 := by omega
  obtain ⟨W1, hmk, ho1, hb1⟩ := make_zeros n w (by omega)
  have HB1 : Hid (Below w.heap.size w W1) := hb1
  have HO1 : Hid (Own W1 w.heap.size (.slice (some ⟨w.heap.size, 0, none⟩) n n) (List.replicate 0 c ++ List.replicate (n - 0) 0)) := by simpa [Hid] using ho1
  clear hg ho1 hb1 w0 w1 hn
  go_enter Tryd.func11, Tryd.ntmps11
  go_wp2_with fail
  clear hmk
  go_loopw [19] (fun i wr => ∃ (k : Nat), k ≤ n ∧ i = .int .i64 k ∧ Hid (Own wr w.heap.size (.slice (some ⟨w.heap.size, 0, none⟩) n n) (List.replicate k c ++ List.replicate (n - k) 0)) ∧ Hid (Below w.heap.size w wr)) (fun i _ => n - (intOf i).toNat)
  case atStart => exact ⟨0, Nat.zero_le _, rfl, HO1, HB1⟩
  case round =>
    obtain ⟨k, hk, rfl, hos, hbs⟩ := hrel
    by_cases hlt : k < n
    · have hcell := hos.out.cellAt k hlt
      have hfz := hos.out.frozenAt k
      have st := hos.out.stored (Nat.le_refl _) k c hc
      rw [fill_set n k c hlt] at st
      have HST : Hid (_ ∧ _) := st
      generalize (List.replicate k c ++ List.replicate (n - k) 0)[k]?.getD 0 = y at hcell
      clear st
      go_wp2
      go_roundw
      case rel => exact ⟨k + 1, by omega, by go_num, HST.out.1, hbs.out.trans HST.out.2⟩
      case measure => simp [intOf]; omega
    · obtain rfl : k = n := by omega
      have HO2 : Hid (Own wr w.heap.size (.slice (some ⟨w.heap.size, 0, none⟩) k k) (List.replicate k c)) := by have := hos.out; simpa [Hid] using this
      have HR2 : Hid (Row wr (some ⟨w.heap.size, 0, none⟩) k (List.replicate k c)) := HO2.out.row
      clear hos HO1
      by_cases hbad : k < 1 ∨ 65535 < k
      · have hb' : decide ((k : Int) < 1) = true ∨ decide ((65535 : Int) < (k : Int)) = true := by
          rcases hbad with h | h
          · left; simp; omega
          · right; simp; omega
        go_wp2_with fail
        refine (put_bad _ k _ _ hbad).mono ?_
        rintro e w' ⟨rfl, hw⟩
        subst w'
        rcases hbad with h | h
        · go_wp2_with fail
          refine (awake4_any _).mono ?_
          rintro e w9 ⟨rfl, hb9⟩
          have HB9 : Hid (Below w.heap.size w w9) := hbs.out.trans (hb9.mono hbs.out.size)
          clear hb9
          go_wp2
          go_ret
          exact ⟨rfl, HB9.out⟩
        · go_wp2_with fail
          refine (awake4_any _).mono ?_
          rintro e w9 ⟨rfl, hb9⟩
          have HB9 : Hid (Below w.heap.size w w9) := hbs.out.trans (hb9.mono hbs.out.size)
          clear hb9
          go_wp2
          go_ret
          exact ⟨rfl, HB9.out⟩
      · have hk1 : 1 ≤ k := by omega
        have hk2 : k ≤ 65535 := by omega
        have hll : (List.replicate k c).length = k := List.length_replicate
        have hbyt : ∀ x ∈ List.replicate k c, x < 256 := HO2.out.2
        have HE3 : Hid (Fr.ocode (Fr.put (List.replicate k c)) = 0) := by
          have := Fr.ocode_put (List.replicate k c) [] (by omega) (by omega) hbyt
          simpa [Hid] using this
        have HE2 : Hid (Fr.rec (Fr.put (List.replicate k c)) = List.replicate k c) := by
          have := Fr.rec_put (List.replicate k c) []
          simpa [Hid] using this
        have hpl : (Fr.put (List.replicate k c)).length = k + 7 := by rw [Fr.put_length, hll]
        generalize List.replicate k c = bs at HO2 HR2 hll HE3 HE2 hpl
        clear hbyt
        go_wp2_with fail
        refine (put_ok _ k k bs _ HR2.out (by simp) hk1 hk2).mono ?_
        rintro e w3 ⟨v3, rfl, ho3, hb3⟩
        obtain ⟨a3, cap3, hv3, r3, hc3, hm3, hz3, _⟩ := ho3.sliceN (k + 7) hpl
        subst hv3
        have HB3 : Hid (Below w.heap.size w w3) := hbs.out.trans (hb3.mono hbs.out.size)
        have HR23 : Hid (Row w3 (some ⟨w.heap.size, 0, none⟩) k bs) := HR2.out.later hb3
        have HR3 : Hid (Row w3 a3 (k + 7) (Fr.put bs)) := r3
        have HC3 : Hid (k + 7 ≤ cap3 ∧ cap3 ≤ maxLen) := ⟨hc3, hm3⟩
        clear ho3 hb3 r3 hc3 hm3
        go_wp2_with fail
        refine (open_ok _ (k + 7) cap3 _ w3 HR3.out HC3.out.1 HC3.out.2 HE3.out).mono ?_
        rintro e w4 ⟨v4, rfl, ho4, hb4⟩
        rw [HE2.out] at ho4
        obtain ⟨a4, cap4, hv4, r4, _, _, _, _⟩ := ho4.sliceN k hll
        subst hv4
        have HB4 : Hid (Below w.heap.size w w4) := HB3.out.trans (hb4.mono HB3.out.size)
        have k0 := conv_row (HR23.out.later hb4) k
        have k4 := conv_row r4 cap4
        clear ho4 hb4 r4
        go_wp2_with fail
        refine (awake4_any _).mono ?_
        rintro e w9 ⟨rfl, hb9⟩
        have HB9 : Hid (Below w.heap.size w w9) := HB4.out.trans (hb9.mono HB4.out.size)
        clear hb9
        go_wp2
        go_ret
        exact ⟨rfl, HB9.out⟩

/-! From the call to the statement. -/
set_option maxRecDepth 100000 in
theorem lifted (os : Os) (started : os.Started) (H : Type) (enc : TypeId × Value → H) :
    ReturnsInHanded {} Tryd.checked os 11 .any (fun w args => (Rows.frameLongSpec.pre enc Tryd.prog Tryd.f11 [] false w args ∧ laidMetH Tryd.prog listed w) ∧ sizedMet enc Tryd.prog Tryd.f11 (OpenSpec.ofChange Rows.frameLongSpec) false w args)
      (Rows.frameLongSpec.post enc Tryd.prog Tryd.f11 false true false false) := by
  refine returnsInHanded_of_change_and (C := Tryd.checked) (X := fun w _ => laidMetH Tryd.prog listed w) (fun _ _ _ hh h => h.of_heap hh) Fa.own started (by kernel_rfl) Tryd.func11
    (ChangeSpec.witness_shaped (enc := enc) (C := Tryd.checked) (os := os) (X := fun w _ => laidMetH Tryd.prog listed w) false (World.doorLaid Tryd.prog 400 os) #[.int .u32 0, .int .u8 0] 8 rfl (World.shaped_of_RefB (by kernel_rfl) (by kernel_rfl)) (by kernel_rfl) (by kernel_rfl) (by kernel_rfl) (door_met os _)) ?_
  intro W base args ds gs before hval0 hW _ _ hL _
  have hval : ∀ (j : Nat) t v, Tryd.f11.params[j]? = some t → args[j]? = some v → Value.okWide Tryd.prog W .any base t v := hval0
  have hW' := hW
  obtain ⟨p, q, hA0, hV, rfl, hfz, hnd⟩ := hW
  have hA : DataW.TrodAll enc Tryd.prog W 0 (fun _ => true) true Tryd.f11.params.toList args.toList ds p := hA0
  rw [Tryd.params11] at hA hval
  obtain ⟨v0, vs0, d0, ds0, p0, q0, hargs, rfl, rfl, h0, r0⟩ := trodAll_cons hA
  obtain ⟨v1, vs1, d1, ds1, p1, q1, rfl, rfl, rfl, h1, r1⟩ := trodAll_cons r0
  obtain ⟨rfl, rfl, rfl⟩ := trodAll_nil r1
  obtain rfl : args = #[v0, v1] := by cases args; simp_all
  obtain ⟨rfl, rfl⟩ := trodVars_none hV
  obtain ⟨a0, rfl, rfl, rfl, w0⟩ := open_int Tryd.underlying57 (hval 0 57 v0 rfl rfl) h0
  obtain ⟨a1, rfl, rfl, rfl, w1⟩ := open_int Tryd.underlying5 (hval 1 5 v1 rfl rfl) h1
  clear hA0 hval0
  simp only [List.append_nil] at hW'
  refine (walk a0 a1 W (G.of_laid hL) w0 w1).mono fun e W' ⟨he, bel⟩ => ?_
  subst he
  exact ⟨_, rfl, _, _, _, [], _, [], hW', trodAll_mk1 (shut_bool Tryd.underlying4 _), (trodAll_cons_mk (shut_int Tryd.underlying57 w0) (trodAll_cons_mk (shut_int Tryd.underlying5 w1) trodAll_mk0)), rfl, bel.frame _, fun h => by cases h⟩

theorem over : Rows.frameLongRow.holds Tryd.pinned (OpenSpec.ofChange Rows.frameLongSpec) :=
  OpenClaim.holds_of_wide 11 Tryd.f11 rfl rfl rfl rfl rfl rfl rfl ⟨rfl, rfl, rfl, rfl, rfl⟩ rfl rfl rfl rfl rfl (by kernel_rfl) Tryd.func11 (by kernel_rfl)
    (of_decide_eq_true (by kernel_rfl)) (by unfold Func.isWrapper; rw [if_neg (of_decide_eq_false (by kernel_rfl))]; exact ⟨rfl, rfl⟩)
    (fun os started H enc _ => lifted os started H enc)
end Go.Proofs.YtiemgdclhjdmlaaDoor.frameLong
namespace Go.Proofs.YtiemgdclhjdmlaaDoor
open Go
set_option maxRecDepth 100000 in
theorem frameLong_holds : Rows.FrameLongCardSaid :=
  Claim7.holds_tied_plain_at .later [] [.handle] true (true, "6bb8420f3958038eed9cfcd5f39460c47147c0b66445aadddf18d967e68e5430") true
    frameLong.over (fun _ h => by cases h) (by kernel_rfl) (fun _ h => by cases h) frameLong_row_tie rfl ⟨rfl, rfl⟩ (by kernel_rfl) rfl
    (fun f fn hf hfn => by
      obtain rfl : f = 11 := Option.some.inj ((show Tryd.prog.funcNamed Rows.frameLongRow.func = some 11 by kernel_rfl).symm.trans hf) |>.symm
      obtain rfl : fn = Tryd.f11 := (Option.some.inj (Tryd.func11.symm.trans hfn)).symm
      exact ⟨by kernel_rfl, fun j t ht => by
        rw [Tryd.params11] at ht
        match j, ht with
        | 0, ht =>
          obtain rfl : t = 57 := by simpa using ht.symm
          exact (show Tryd.prog.wantsStandIn 57 = false by kernel_rfl)
        | 1, ht =>
          obtain rfl : t = 5 := by simpa using ht.symm
          exact (show Tryd.prog.wantsStandIn 5 = false by kernel_rfl)
        | j + 2, ht => simp at ht⟩)
    (by kernel_rfl)
#print axioms frameLong_holds
end Go.Proofs.YtiemgdclhjdmlaaDoor
