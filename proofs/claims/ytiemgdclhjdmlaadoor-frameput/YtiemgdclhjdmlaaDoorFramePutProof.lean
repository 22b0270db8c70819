/-
  FramePut: for all bytes the law returns true and leaves its arguments as they were; condition: the variable errors.errorType lies as the text of package errors lays it (a tied card).
-/
import Derived.Test.YtiemgdclhjdmlaaDoorRows
import Derived.Test.YtiemgdclhjdmlaaDoorCards
import Derived.Test.YtiemgdclhjdmlaaDoorTie
import Derived.Test.YtiemgdclhjdmlaaDoorDoor
import Derived.Test.YtiemgdclhjdmlaaDoorFrC
import Derived.WalkKit
import Derived.ProofKit
import Derived.OpenShut
import Derived.ShutString
import Derived.ChangeOld
import Derived.Below
import Derived.SevenTiedAt
namespace Go.Proofs.YtiemgdclhjdmlaaDoor.framePut
open Go.ChangeShapes Go.WideShapes Go.ChangeAt Go.RowKit
open Go.ChangeMaps (open_string shut_string)
set_option linter.unusedSimpArgs false
set_option linter.unusedVariables false

theorem laidOut : laidOutB Tryd.prog = true := by kernel_rfl

/-! The law returns true, and writes nothing that was there. -/
set_option maxRecDepth 100000 in
set_option maxHeartbeats 4000000 in
theorem walk (a0 : Option Addr) (len0 cap0 : Nat) (z0 : List Int) (a1 : Option Addr) (len1 cap1 : Nat) (z1 : List Int) (w : World) (hg : G w) (w0 : IsRow .u8 w a0 len0 cap0 z0) (w1 : IsRow .u8 w a1 len1 cap1 z1) :
    Calls Tryd.prog 7 #[.slice a0 len0 cap0, .slice a1 len1 cap1] w fun e w' => e = .returned (.bool true) ∧ Below w.heap.size w w' := by
  have r0 := w0.row (min len0 200) (Nat.min_le_left _ _)
  have r1 := w1.row (min len1 200) (Nat.min_le_left _ _)
  have f0 := w0.facts
  have f1 := w1.facts
  have l0 : min len0 200 ≤ 200 := Nat.min_le_right _ _
  have l1 : min len1 200 ≤ 200 := Nat.min_le_right _ _
  have c0 : min len0 200 ≤ cap0 := Nat.le_trans (Nat.min_le_left _ _) f0.1
  have c1 : min len1 200 ≤ cap1 := Nat.le_trans (Nat.min_le_left _ _) f1.1
  have HG : Hid (G w) := hg
  clear hg
  go_enter Tryd.func7, Tryd.ntmps7
  go_wp2_with fail
  refine (few4_any _ _ _ _ _ w0).mono ?_
  rintro e w' ⟨rfl, hw⟩
  subst w'
  go_wp2_with fail
  refine (few4_any _ _ _ _ _ w1).mono ?_
  rintro e w' ⟨rfl, hw⟩
  subst w'
  clear w0 w1
  generalize firsts z0 (min len0 200) = bs at r0
  generalize firsts z1 (min len1 200) = ms at r1
  generalize min len0 200 = n at r0 l0 c0 ⊢
  generalize min len1 200 = m at r1 l1 c1 ⊢
  have hl0 := r0.1
  have hl1 := r1.1
  by_cases hn : n = 0
  · subst hn
    go_wp2_with fail
    refine (put_bad _ 0 _ _ (.inl (by omega))).mono ?_
    rintro e w' ⟨rfl, hw⟩
    subst w'
    go_wp2_with fail
    refine (awake4_any _).mono ?_
    rintro e w5 ⟨rfl, hb5⟩
    go_wp2
    go_ret
    exact ⟨rfl, hb5⟩
  go_wp2_with fail
  refine (put_ok _ n _ bs _ r0 f0.2.2 (by omega) (by omega)).mono ?_
  rintro e w3 ⟨v3, rfl, ho3, hb3⟩
  obtain ⟨a3, cap3, hv3, r3, hc3, hm3, hz3, _⟩ := ho3.sliceN (n + 7) (by rw [Fr.put_length]; omega)
  subst hv3
  have HB3 : Hid (Below w.heap.size w w3) := hb3
  have HR0 : Hid (Row w a0 n bs) := r0
  have HR1 : Hid (Row w a1 m ms) := r1
  have HR3 : Hid (Row w3 a3 (n + 7) (Fr.put bs)) := r3
  have hn1 : 1 ≤ n := by omega
  have hbyt : ∀ x ∈ bs, x < 256 := r0.2.1
  have hmb : ∀ x ∈ ms, x < 256 := r1.2.1
  have HE0 : Hid (Fr.code (Fr.put bs ++ ms) = 0) := Fr.code_put bs ms (by omega) (by omega) hbyt
  have HE1 : Hid (Fr.num (Fr.put bs ++ ms) = n) := by unfold Hid; rw [Fr.num_put, hl0]
  have HE2 : Hid (Fr.rec (Fr.put bs ++ ms) = bs) := Fr.rec_put bs ms
  have HE3 : Hid (Fr.ocode (Fr.put bs ++ ms) = if ms = [] then 0 else 3) := Fr.ocode_put bs ms (by omega) (by omega) hbyt
  clear ho3 hb3 r0 r1 r3 hbyt hmb
  go_wp2_with fail
  have hd0 : Below w3.heap.size w3 w3.drew := (Below.refl _ _).drew
  have HS : Hid (∀ w', Below w3.heap.size w3 w' → Below w3.heap.size w3 w' ∧ (convert 42 9 (.slice a3 (n + 7) cap3)).run Tryd.prog w' = .ok (.string (str (Fr.put bs))) w') := fun w' hb => ⟨hb, conv_row (HR3.out.later hb) _⟩
  refine wp_region_noPanic ?_
  refine wp_region_held_drew (S := (fun w' => Below w3.heap.size w3 w' ∧ (convert 42 9 (.slice a3 (n + 7) cap3)).run Tryd.prog w' = .ok (.string (str (Fr.put bs))) w')) (by kernel_rfl) ?_ (fun hHeld => ?_)
  · exact HS.out _ hd0
  refine held_take (i := 0) (d := 35) (v := ?_) rfl rfl (by kernel_rfl) (by kernel_rfl) (by kernel_rfl) (fun _ _ _ h => h) (Or.inl ⟨by rfl, ?_⟩) hHeld ?_
  rotate_left
  · (intro w hSw; (try dsimp only at hSw); go_simp; all_goals (with_reducible rfl))
  try simp only [Act.put, List.setIfInBounds_toArray, List.set_cons_zero, List.set_cons_succ]
  refine held_take (i := 1) (d := 36) (v := ?_) rfl rfl (by kernel_rfl) (by kernel_rfl) (by kernel_rfl) (fun _ _ _ h => h) (Or.inl ⟨by rfl, ?_⟩) hHeld ?_
  rotate_left
  · (intro w hSw; (try dsimp only at hSw); go_simp; all_goals (with_reducible rfl))
  try simp only [Act.put, List.setIfInBounds_toArray, List.set_cons_zero, List.set_cons_succ]
  refine held_take (i := 2) (d := 37) (v := ?_) rfl rfl (by kernel_rfl) (by kernel_rfl) (by kernel_rfl) (fun _ _ _ h => h) (Or.inl ⟨by rfl, ?_⟩) hHeld ?_
  rotate_left
  · (intro w hSw; (try dsimp only at hSw); go_simp; all_goals (with_reducible rfl))
  try simp only [Act.put, List.setIfInBounds_toArray, List.set_cons_zero, List.set_cons_succ]
  refine held_take (i := 3) (d := 38) (v := ?_) rfl rfl (by kernel_rfl) (by kernel_rfl) (by kernel_rfl) (fun _ _ _ h => h) (Or.inl ⟨by rfl, ?_⟩) hHeld ?_
  rotate_left
  · (intro w hSw; (try dsimp only at hSw); go_simp; all_goals (with_reducible rfl))
  try simp only [Act.put, List.setIfInBounds_toArray, List.set_cons_zero, List.set_cons_succ]
  refine held_take (i := 4) (d := 39) (v := ?_) rfl rfl (by kernel_rfl) (by kernel_rfl) (by kernel_rfl) (fun _ _ _ h => h) (Or.inl ⟨by rfl, ?_⟩) hHeld ?_
  rotate_left
  · (intro w hSw; (try dsimp only at hSw); go_simp; all_goals (with_reducible rfl))
  try simp only [Act.put, List.setIfInBounds_toArray, List.set_cons_zero, List.set_cons_succ]
  refine held_take (i := 5) (d := 40) (v := ?_) rfl rfl (by kernel_rfl) (by kernel_rfl) (by kernel_rfl) (fun _ _ _ h => h) (Or.inl ⟨by rfl, ?_⟩) hHeld ?_
  rotate_left
  · (intro w hSw; (try dsimp only at hSw); go_simp; all_goals (with_reducible rfl))
  try simp only [Act.put, List.setIfInBounds_toArray, List.set_cons_zero, List.set_cons_succ]
  refine wpAnyH_ready (rs := [6]) (by kernel_rfl) (by simp) ?_
  refine AllReadyH.cons rfl (fun K hK => ?_) AllReadyH.nil
  go_simp
  refine (refput_any _ n _ bs _ (HR0.out.later (HB3.out.trans (hd0.mono HB3.out.size))) f0.2.2 (by omega)).mono ?_
  rintro e w4 ⟨v4, rfl, ho4, hb4⟩
  obtain ⟨a4, n4, cap4, hv4, r4, _, _, _, _⟩ := ho4.slice
  subst hv4
  replace hb4 : Below w3.heap.size w3 w4 := hd0.trans hb4
  go_wp2_with fail
  refine hK.out _ _ ?_ (fun hHeld => ?_)
  · exact HS.out _ hb4
  clear hK K
  try simp only [Act.put, List.setIfInBounds_toArray, List.set_cons_zero, List.set_cons_succ]
  have HS2 : Hid (∀ w', Below w4.heap.size w4 w' → (Below w3.heap.size w3 w' ∧ (convert 42 9 (.slice a3 (n + 7) cap3)).run Tryd.prog w' = .ok (.string (str (Fr.put bs))) w') ∧ (convert 42 9 (.slice a4 n4 cap4)).run Tryd.prog w' = .ok (.string (str (Fr.put bs))) w') := fun w' hb => ⟨HS.out _ (hb4.trans (hb.mono hb4.size)), conv_row (r4.later hb) _⟩
  refine held_mono (S' := (fun w' => (Below w3.heap.size w3 w' ∧ (convert 42 9 (.slice a3 (n + 7) cap3)).run Tryd.prog w' = .ok (.string (str (Fr.put bs))) w') ∧ (convert 42 9 (.slice a4 n4 cap4)).run Tryd.prog w' = .ok (.string (str (Fr.put bs))) w')) (fun _ h => h.1) _ _ _ _ ?_
  replace hHeld := HS2.out _ (Below.refl _ _)
  refine held_take (i := 7) (d := 42) (v := ?_) rfl rfl (by kernel_rfl) (by kernel_rfl) (by kernel_rfl) (fun _ _ _ h => h) (Or.inl ⟨by rfl, ?_⟩) hHeld ?_
  rotate_left
  · (intro w hSw; (try dsimp only at hSw); go_simp; all_goals (with_reducible rfl))
  try simp only [Act.put, List.setIfInBounds_toArray, List.set_cons_zero, List.set_cons_succ]
  refine held_take (i := 8) (d := 43) (v := ?_) rfl rfl (by kernel_rfl) (by kernel_rfl) (by kernel_rfl) (fun _ _ _ h => h) (Or.inl ⟨by rfl, ?_⟩) hHeld ?_
  rotate_left
  · (intro w hSw; (try dsimp only at hSw); go_simp; all_goals (with_reducible rfl))
  try simp only [Act.put, List.setIfInBounds_toArray, List.set_cons_zero, List.set_cons_succ]
  refine held_take (i := 9) (d := 44) (v := ?_) rfl rfl (by kernel_rfl) (by kernel_rfl) (by kernel_rfl) (fun _ _ _ h => h) (Or.inl ⟨by rfl, ?_⟩) hHeld ?_
  rotate_left
  · (intro w hSw; (try dsimp only at hSw); go_simp; all_goals (with_reducible rfl))
  try simp only [Act.put, List.setIfInBounds_toArray, List.set_cons_zero, List.set_cons_succ]
  refine wpAnyH_done (by kernel_rfl) ?_ _
  refine NoPanic.normal ?_
  have HB4 : Hid (Below w.heap.size w w4) := HB3.out.trans (hb4.mono HB3.out.size)
  have HR34 : Hid (Row w4 a3 (n + 7) (Fr.put bs)) := HR3.out.later hb4
  clear hHeld hb4 ho4 r4 hd0 HS HS2
  have ho := Own.new w4 w4.heap.size (Nat.le_refl _) #[] [] rfl (by simp) (by simp)
  have ra := HR34.out.later (below_new w4 (.cells #[] 5))
  have HRB : Hid (Row w4 a1 m ms) := HR1.out.later HB4.out
  have hbn := below_new w4 (.cells #[] 5)
  have hla : (([] : List Nat) ++ Fr.put bs).length = n + 7 := by rw [List.nil_append, Fr.put_length]; omega
  have hlb : (([] : List Nat) ++ Fr.put bs ++ ms).length = n + 7 + m := by rw [List.length_append, hla]; omega
  go_wp2_with (first
    | (at_builtin; refine wp_append_at rfl _ _ rfl w4.heap.size _ [] rfl ho _ _ _ _ rfl ra hz3 (by simp; omega) (by simp) (n + 7) hla (by omega) ?_; intro g5 cap5 w5 hg5 hc5 hm5 ho5 hb5; have hb45 := hbn.trans hb5; have rb5 := HRB.out.later hb45; have hsz5 := hb45.size)
    | (at_builtin; refine wp_append_at rfl _ _ rfl w4.heap.size _ _ rfl ho5 _ _ _ _ rfl rb5 f1.2.2 (by rw [hla]; omega) hsz5 (n + 7 + m) hlb (by omega) ?_; intro g6 cap6 w6 hg6 hc6 hm6 ho6 hb6))
  have HB6 : Hid (Below w4.heap.size w4 w6) := hb45.trans hb6
  have ho6' : Own w6 w4.heap.size (.slice (some ⟨g6, 0, none⟩) (n + 7 + m) cap6) (Fr.put bs ++ ms) := ho6
  have HR6 : Hid (Row w6 (some ⟨g6, 0, none⟩) (n + 7 + m) (Fr.put bs ++ ms)) := ho6'.row
  have HC6 : Hid (n + 7 + m ≤ cap6 ∧ cap6 ≤ maxLen) := ⟨hc6, hm6⟩
  have HB46 : Hid (Below w.heap.size w w6) := HB4.out.trans (HB6.out.mono HB4.out.size)
  clear ho6 ho6' hb6 ho5 hb5 hb45 rb5 hbn ho ra hla hlb hc5 hm5 hg5 hc6 hm6
  refine (next_ok _ (n + 7 + m) cap6 _ w6 HR6.out HC6.out.1 HC6.out.2 HE0.out).mono ?_
  rintro e w7 ⟨v7, rfl, ho7, hb7⟩
  rw [HE2.out] at ho7
  rw [HE1.out]
  obtain ⟨a7, cap7, hv7, r7, hc7, hm7, _, _⟩ := ho7.sliceN n hl0
  subst hv7
  have HR67 : Hid (Row w7 (some ⟨g6, 0, none⟩) (n + 7 + m) (Fr.put bs ++ ms)) := HR6.out.later hb7
  have HR7 : Hid (Row w7 a7 n bs) := r7
  have HB7 : Hid (Below w.heap.size w w7) := HB46.out.trans (hb7.mono HB46.out.size)
  clear ho7 hb7 r7
  go_wp2_with fail
  by_cases hm0 : ms = []
  · have h3 : Fr.ocode (Fr.put bs ++ ms) = 0 := by rw [HE3.out, if_pos hm0]
    have hmz : m = 0 := by rw [← hl1, hm0]; rfl
    refine (open_ok _ (n + 7 + m) cap6 _ w7 HR67.out HC6.out.1 HC6.out.2 h3).mono ?_
    rintro e w8 ⟨v8, rfl, ho8, hb8⟩
    rw [HE2.out] at ho8
    obtain ⟨a8, cap8, hv8, r8, hc8, hm8, _, _⟩ := ho8.sliceN n hl0
    subst hv8
    have HB8 : Hid (Below w.heap.size w w8) := HB7.out.trans (hb8.mono HB7.out.size)
    have k0 := conv_row (HR0.out.later HB8.out) cap0
    have k7 := conv_row (HR7.out.later hb8) cap7
    have k8 := conv_row r8 cap8
    clear ho8 hb8 r8 h3
    subst hmz
    go_wp2_with fail
    refine (awake4_any _).mono ?_
    rintro e w9 ⟨rfl, hb9⟩
    have HB9 : Hid (Below w.heap.size w w9) := HB8.out.trans (hb9.mono HB8.out.size)
    clear hb9
    go_wp2
    go_ret
    exact ⟨rfl, HB9.out⟩
  · have h3 : Fr.ocode (Fr.put bs ++ ms) = 3 := by rw [HE3.out, if_neg hm0]
    have hmz : 0 < m := by rw [← hl1]; exact List.length_pos_iff.2 hm0
    refine (open_bad _ (n + 7 + m) cap6 _ w7 (HG.out.later HB7.out) HR67.out HC6.out.1 HC6.out.2 (by rw [h3]; omega)).mono ?_
    rw [h3]
    rintro e w8 ⟨rfl, hb8⟩
    have HB8 : Hid (Below w.heap.size w w8) := HB7.out.trans (hb8.mono HB7.out.size)
    have k0 := conv_row (HR0.out.later HB8.out) cap0
    have k7 := conv_row (HR7.out.later hb8) cap7
    clear hb8 h3
    go_wp2_with fail
    refine (awake4_any _).mono ?_
    rintro e w9 ⟨rfl, hb9⟩
    have HB9 : Hid (Below w.heap.size w w9) := HB8.out.trans (hb9.mono HB8.out.size)
    clear hb9
    go_wp2
    go_ret
    exact ⟨rfl, HB9.out⟩

/-! From the call to the statement. -/
set_option maxRecDepth 100000 in
theorem lifted (os : Os) (started : os.Started) (H : Type) (enc : TypeId × Value → H) :
    ReturnsInHanded {} Tryd.checked os 7 .any (fun w args => (Rows.framePutSpec.pre enc Tryd.prog Tryd.f7 [] false w args ∧ laidMetH Tryd.prog listed w) ∧ sizedMet enc Tryd.prog Tryd.f7 (OpenSpec.ofChange Rows.framePutSpec) false w args)
      (Rows.framePutSpec.post enc Tryd.prog Tryd.f7 false true false false) := by
  refine returnsInHanded_of_change_and (C := Tryd.checked) (X := fun w _ => laidMetH Tryd.prog listed w) (fun _ _ _ hh h => h.of_heap hh) Fa.own started (by kernel_rfl) Tryd.func7
    (ChangeSpec.witness_shaped (enc := enc) (C := Tryd.checked) (os := os) (X := fun w _ => laidMetH Tryd.prog listed w) false (World.doorLaid Tryd.prog 400 os) #[.slice none 0 0, .slice none 0 0] 8 rfl (World.shaped_of_RefB (by kernel_rfl) (by kernel_rfl)) (by kernel_rfl) (by kernel_rfl) (by kernel_rfl) (door_met os _)) ?_
  intro W base args ds gs before hval0 hW _ _ hL _
  have hval : ∀ (j : Nat) t v, Tryd.f7.params[j]? = some t → args[j]? = some v → Value.okWide Tryd.prog W .any base t v := hval0
  have hW' := hW
  obtain ⟨p, q, hA0, hV, rfl, hfz, hnd⟩ := hW
  have hA : DataW.TrodAll enc Tryd.prog W 0 (fun _ => true) true Tryd.f7.params.toList args.toList ds p := hA0
  rw [Tryd.params7] at hA hval
  obtain ⟨v0, vs0, d0, ds0, p0, q0, hargs, rfl, rfl, h0, r0⟩ := trodAll_cons hA
  obtain ⟨v1, vs1, d1, ds1, p1, q1, rfl, rfl, rfl, h1, r1⟩ := trodAll_cons r0
  obtain ⟨rfl, rfl, rfl⟩ := trodAll_nil r1
  obtain rfl : args = #[v0, v1] := by cases args; simp_all
  obtain ⟨rfl, rfl⟩ := trodVars_none hV
  obtain ⟨a0, len0, cap0, rfl⟩ := okWide_slice Tryd.underlying42 (hval 0 42 v0 rfl rfl)
  have k0 := h0
  have lt0 : ∀ x ∈ p0, x.block < W.heap.size := by obtain ⟨m, hm⟩ := k0; exact DataW.trod_lt m _ _ _ hm
  obtain ⟨z0, w0⟩ : ∃ zs, IsRow .u8 W a0 len0 cap0 zs := by
    obtain ⟨fuel, hf⟩ := h0
    rcases open_ints Tryd.underlying42 Tryd.underlying5 (by kernel_rfl) hf with ⟨hcs, _⟩ | ⟨x, l, c, zs, hcs, _, hl, hm, hz, _, hcell, hwz⟩
    · simp [Value.cells] at hcs
      obtain ⟨rfl, rfl, rfl⟩ := hcs
      exact ⟨[], .inl ⟨rfl, rfl, rfl, rfl⟩⟩
    · simp [Value.cells] at hcs
      obtain ⟨rfl, rfl, rfl⟩ := hcs
      exact ⟨zs, .inr ⟨_, rfl, hl, hm, by simpa using hz, hcell, hwz⟩⟩
  obtain ⟨a1, len1, cap1, rfl⟩ := okWide_slice Tryd.underlying42 (hval 1 42 v1 rfl rfl)
  have k1 := h1
  have lt1 : ∀ x ∈ p1, x.block < W.heap.size := by obtain ⟨m, hm⟩ := k1; exact DataW.trod_lt m _ _ _ hm
  obtain ⟨z1, w1⟩ : ∃ zs, IsRow .u8 W a1 len1 cap1 zs := by
    obtain ⟨fuel, hf⟩ := h1
    rcases open_ints Tryd.underlying42 Tryd.underlying5 (by kernel_rfl) hf with ⟨hcs, _⟩ | ⟨x, l, c, zs, hcs, _, hl, hm, hz, _, hcell, hwz⟩
    · simp [Value.cells] at hcs
      obtain ⟨rfl, rfl, rfl⟩ := hcs
      exact ⟨[], .inl ⟨rfl, rfl, rfl, rfl⟩⟩
    · simp [Value.cells] at hcs
      obtain ⟨rfl, rfl, rfl⟩ := hcs
      exact ⟨zs, .inr ⟨_, rfl, hl, hm, by simpa using hz, hcell, hwz⟩⟩
  clear hA0 hval0
  refine (walk a0 len0 cap0 z0 a1 len1 cap1 z1 W (G.of_laid hL) w0 w1).mono fun e W' ⟨he, bel⟩ => ?_
  subst he
  exact ⟨_, rfl, _, _, _, [], _, [], hW', trodAll_mk1 (shut_bool Tryd.underlying4 _), (trodAll_cons_mk (Below.trod laidOut (by kernel_rfl) (of_decide_eq_true (by kernel_rfl)) k0 bel lt0) (trodAll_cons_mk (Below.trod laidOut (by kernel_rfl) (of_decide_eq_true (by kernel_rfl)) k1 bel lt1) trodAll_mk0)), rfl, bel.frame _, fun h => by cases h⟩

theorem over : Rows.framePutRow.holds Tryd.pinned (OpenSpec.ofChange Rows.framePutSpec) :=
  OpenClaim.holds_of_wide 7 Tryd.f7 rfl rfl rfl rfl rfl rfl rfl ⟨rfl, rfl, rfl, rfl, rfl⟩ rfl rfl rfl rfl rfl (by kernel_rfl) Tryd.func7 (by kernel_rfl)
    (of_decide_eq_true (by kernel_rfl)) (by unfold Func.isWrapper; rw [if_neg (of_decide_eq_false (by kernel_rfl))]; exact ⟨rfl, rfl⟩)
    (fun os started H enc _ => lifted os started H enc)
end Go.Proofs.YtiemgdclhjdmlaaDoor.framePut
namespace Go.Proofs.YtiemgdclhjdmlaaDoor
open Go
set_option maxRecDepth 100000 in
theorem framePut_holds : Rows.FramePutCardSaid :=
  Claim7.holds_tied_plain_at .later [] [.handle] true (true, "6bb8420f3958038eed9cfcd5f39460c47147c0b66445aadddf18d967e68e5430") true
    framePut.over (fun _ h => by cases h) (by kernel_rfl) (fun _ h => by cases h) framePut_row_tie rfl ⟨rfl, rfl⟩ (by kernel_rfl) rfl
    (fun f fn hf hfn => by
      obtain rfl : f = 7 := Option.some.inj ((show Tryd.prog.funcNamed Rows.framePutRow.func = some 7 by kernel_rfl).symm.trans hf) |>.symm
      obtain rfl : fn = Tryd.f7 := (Option.some.inj (Tryd.func7.symm.trans hfn)).symm
      exact ⟨by kernel_rfl, fun j t ht => by
        rw [Tryd.params7] at ht
        match j, ht with
        | 0, ht =>
          obtain rfl : t = 42 := by simpa using ht.symm
          exact (show Tryd.prog.wantsStandIn 42 = false by kernel_rfl)
        | 1, ht =>
          obtain rfl : t = 42 := by simpa using ht.symm
          exact (show Tryd.prog.wantsStandIn 42 = false by kernel_rfl)
        | j + 2, ht => simp at ht⟩)
    (by kernel_rfl)
#print axioms framePut_holds
end Go.Proofs.YtiemgdclhjdmlaaDoor
