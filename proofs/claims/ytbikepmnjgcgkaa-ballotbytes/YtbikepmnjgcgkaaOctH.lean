/- What the law's own reading of a number does: a contract. -/
import Derived.Test.YtbikepmnjgcgkaaOctG
import Derived.Test.YtbikepmnjgcgkaaOctRef
namespace Go.Proofs.Ytbikepmnjgcgkaa
open Go.RowKit
set_option linter.unusedSimpArgs false

theorem wrap_step (v x : Nat) : IntKind.u64.wrap (IntKind.u64.wrap ((v : Int) * 128) + (x : Int) % 128) = (((v * 128 + x % 128) % 18446744073709551616 : Nat) : Int) := by
  rw [IntKind.wrap_u64, IntKind.wrap_u64]
  omega

set_option maxRecDepth 100000 in
set_option maxHeartbeats 4000000 in
theorem ref_number_any (a : Option Addr) (n cap p : Nat) (bs : List Nat) (w : World) (hr : Row w a n bs) (hc : n ≤ cap) (hcm : cap ≤ maxLen) (hp : p ≤ n) (hn : n ≤ 1000) :
    Calls Try.prog 65 #[.slice a n cap, .int .i64 p] w fun e w' => e = .returned (.tuple #[.int .u64 ((Oct.num 0 0 (bs.drop p)).1 : Nat), .int .i64 ((Oct.num 0 0 (bs.drop p)).2 : Nat)]) ∧ Below w.heap.size w w' := by
  have hlen := hr.1
  have hb : ∀ x ∈ bs.drop p, x < 256 := fun x hx => hr.2.1 x (List.mem_of_mem_drop hx)
  have hrn := Oct.ref_num (bs.drop p) hb
  have hll := Oct.lead_le (bs.drop p)
  have hlo := Oct.lead_on (bs.drop p)
  have hlf := Oct.lead_off (bs.drop p)
  have hdl : (bs.drop p).length = n - p := by rw [List.length_drop]; omega
  obtain ⟨R, hR⟩ : ∃ R, R = Oct.num 0 0 (bs.drop p) := ⟨_, rfl⟩
  rw [← hR] at hrn ⊢
  obtain ⟨L, hL⟩ : ∃ L, L = Oct.lead (bs.drop p) := ⟨_, rfl⟩
  rw [← hL] at hrn hll hlo hlf
  rw [hdl] at hrn hll hlf
  have HL : Hid (L = _) := hL
  have HRN : Hid (R = _) := hrn
  have HLO : Hid (∀ i, _) := hlo
  have HLF : Hid (_ → _) := hlf
  unfold maxLen at hcm
  have hcellAt : ∀ i, p + i < n → ∃ b off, a = some ⟨b, off, none⟩ ∧ w.cell? ⟨b, off + (p + i), none⟩ = some (.int .u8 ((bs.drop p)[i]?.getD 0 : Nat)) ∧ (bs.drop p)[i]?.getD 0 < 256 := by
    intro i hi
    obtain ⟨b, off, h1, h2⟩ := hr.at (by omega)
    refine ⟨b, off, h1, ?_, getD_lt _ hb i⟩
    rw [h2 (p + i) hi, List.getElem?_drop]
  have HCA : Hid (∀ i, _) := hcellAt
  clear hcellAt hlo hlf hrn hR hL
  go_enter Try.func65, Try.ntmps65
  go_wp2
  go_loop [6] (fun k => ∃ i : Nat, i ≤ L ∧ i ≤ 12 ∧ k = .int .i64 ((p + i : Nat) : Int)) (fun k => 2000 - (intOf k).toNat)
  case atStart => exact ⟨0, by omega, by omega, rfl⟩
  case round =>
    obtain ⟨i, hi, hi12, rfl⟩ := hrel
    by_cases hgo : i < L ∧ i < 12
    · obtain ⟨hg1, hg2⟩ := hgo
      obtain ⟨b, off, rfl, hcell, hx⟩ := HCA.out i (by omega)
      have h128 := HLO.out i hg1
      generalize (bs.drop p)[i]?.getD 0 = x at hcell hx h128
      obtain ⟨q, hq⟩ : ∃ q, q = p + i := ⟨_, rfl⟩
      rw [← hq] at hcell ⊢
      have hqn : (q : Int) < (n : Int) := by omega
      have hqp : (q : Int) < (p : Int) + 12 := by omega
      have HQ : Hid (q = p + i) := hq
      clear hq
      go_wp2
      go_round
      case rel => exact ⟨i + 1, by omega, by omega, by have := HQ.out; go_num⟩
      case measure => have := HQ.out; simp [intOf]; omega
    · by_cases hout : n - p ≤ i ∨ 9 < i
      · have e : R = (0, 0) := by rw [HRN.out, if_pos (by omega)]
        subst e
        obtain ⟨q, hq⟩ : ∃ q, q = p + i := ⟨_, rfl⟩
        by_cases hqn : n ≤ p + i
        · rw [← hq] at hqn ⊢
          have hqn1 : ¬ (q : Int) < (n : Int) := by omega
          clear HRN HLO HLF HCA HL hq
          go_wp2
          go_ret2
          exact ⟨rfl, Below.refl _ _⟩
        · obtain ⟨b, off, rfl, hcell, hx⟩ := HCA.out i (by omega)
          by_cases hiL : i < L
          · have h128 := HLO.out i hiL
            generalize (bs.drop p)[i]?.getD 0 = x at hcell hx h128
            rw [← hq] at hcell ⊢
            have hqn1 : (q : Int) < (n : Int) := by omega
            have hq12 : ¬ (q : Int) < (p : Int) + 12 := by omega
            have hq9 : (9 : Int) < (q : Int) - (p : Int) := by omega
            clear HRN HLO HLF HCA HL hq
            go_wp2
            go_ret2
            exact ⟨rfl, Below.refl _ _⟩
          · have h128 : (bs.drop p)[i]?.getD 0 < 128 := by
              have : i = L := by omega
              rw [this]
              exact HLF.out (by omega)
            generalize (bs.drop p)[i]?.getD 0 = x at hcell hx h128
            rw [← hq] at hcell ⊢
            have hqn1 : (q : Int) < (n : Int) := by omega
            have hq9 : (9 : Int) < (q : Int) - (p : Int) := by omega
            clear HRN HLO HLF HCA HL hq
            go_wp2
            go_ret2
            exact ⟨rfl, Below.refl _ _⟩
      · obtain rfl : i = L := by omega
        obtain ⟨b, off, rfl, hcell, hx⟩ := HCA.out i (by omega)
        have h128 : (bs.drop p)[i]?.getD 0 < 128 := HLF.out (by omega)
        generalize (bs.drop p)[i]?.getD 0 = x at hcell hx h128
        obtain ⟨q, hq⟩ : ∃ q, q = p + i := ⟨_, rfl⟩
        rw [← hq] at hcell ⊢
        have hqn1 : (q : Int) < (n : Int) := by omega
        have hq9 : ¬ (9 : Int) < (q : Int) - (p : Int) := by omega
        have HQ : Hid (q = p + i) := hq
        have hpq : (p : Int) ≤ (q : Int) := by omega
        clear hq
        go_wp2
        obtain ⟨sg, hsg⟩ : ∃ sg, sg = (bs.drop p).take (i + 1) := ⟨_, rfl⟩
        have HSG : Hid (sg = _) := hsg
        have HRN2 : Hid (R = if Oct.put (Oct.val sg % 18446744073709551616) = sg then (Oct.val sg % 18446744073709551616, i + 1) else (0, 0)) := by
          unfold Hid
          rw [HRN.out, if_neg hout, hsg]
        have hsl : sg.length = i + 1 := by rw [hsg, List.length_take]; omega
        have HSL : Hid (sg.length = i + 1) := hsl
        clear HRN hsg hsl hcell hx h128 HLO HLF
        go_loop [7, 8] (fun u z => ∃ (m v : Nat) (y : Int), m ≤ i + 1 ∧ z = .int .i64 y ∧ Hid (y = (p : Int) + m - 1) ∧ u = .int .u64 (v : Nat) ∧ v < 18446744073709551616 ∧ Hid (v = Oct.val (sg.drop m) % 18446744073709551616)) (fun _ z => (intOf z + 1 - p).toNat)
        case atStart => exact ⟨i + 1, 0, q, Nat.le_refl _, rfl, by have := HQ.out; unfold Hid; omega, rfl, by omega, by unfold Hid; rw [List.drop_eq_nil_of_le (by have := HSL.out; omega)]; rfl⟩
        case round =>
          obtain ⟨m, v, y, hm, rfl, HY, rfl, hv64, HV⟩ := hrel
          by_cases hm0 : 0 < m
          · obtain ⟨k, hk⟩ : ∃ k : Nat, y = (k : Int) := ⟨p + m - 1, by have := HY.out; omega⟩
            subst hk
            obtain ⟨b', off', hab, hcell, hx⟩ := HCA.out (m - 1) (by have := HQ.out; omega)
            simp only [Option.some.injEq, Addr.mk.injEq] at hab
            obtain ⟨rfl, rfl, _⟩ := hab
            have hkm : p + (m - 1) = k := by have := HY.out; omega
            rw [hkm] at hcell
            have HVD : Hid (Oct.val (sg.drop (m - 1)) = (bs.drop p)[m - 1]?.getD 0 % 128 + 128 * Oct.val (sg.drop m)) := by
              unfold Hid
              rw [Oct.val_drop sg (m - 1) (by have := HSL.out; omega), show m - 1 + 1 = m by omega, HSG.out, List.getElem?_take_of_lt (by omega)]
            generalize (bs.drop p)[m - 1]?.getD 0 = x at hcell hx HVD
            have hkn : (k : Int) < (n : Int) := by have := HQ.out; omega
            have hpk : (p : Int) ≤ (k : Int) := by omega
            have HKM : Hid (p + (m - 1) = k) := hkm
            clear hkm
            go_wp2
            go_round
            case rel => exact ⟨m - 1, (v * 128 + x % 128) % 18446744073709551616, (k : Int) - 1, by omega, rfl, by have := HY.out; unfold Hid; omega, by rw [wrap_step v x], Nat.mod_lt _ (by omega), by unfold Hid; rw [HVD.out, HV.out]; omega⟩
            case measure => simp [intOf]; omega
          · obtain rfl : m = 0 := by omega
            rw [List.drop_zero] at HV
            have hyp : ¬ (p : Int) ≤ y := by have := HY.out; omega
            have rs : Row w (some ⟨b, off + p, none⟩) (q + 1 - p) sg := by
              have h1 := hr.part p (i + 1) (by omega)
              have e1 : q + 1 - p = i + 1 := by have := HQ.out; omega
              rw [e1, HSG.out]
              exact h1
            have HRS : Hid (R = if Oct.put v = sg then (v, i + 1) else (0, 0)) := by unfold Hid; rw [HV.out]; exact HRN2.out
            have hsb := rs.2.1
            have HSE := str_eq (Oct.put v) sg (Oct.putF_lt 9 v (by omega)) hsb
            have hpq1 : (p : Int) ≤ (q : Int) + 1 := by omega
            have hqc : (q : Int) + 1 ≤ (cap : Int) := by omega
            have hne : ¬ cap = p := by omega
            clear HRN2 HV HY HCA HL HSG HSL hsb
            have hres : ((q : Int) + 1 - (p : Int)) = ((i + 1 : Nat) : Int) := by have := HQ.out; omega
            have HRES : Hid (_ = _) := hres
            clear hres
            by_cases heq : Oct.put v = sg
            · have e2 : R = (v, i + 1) := by rw [HRS.out, if_pos heq]
              have hsd : ((str (Oct.put v)).toList == (str sg).toList) = true := by rw [HSE]; simp [heq]
              have E2 : Hid (R = (v, i + 1)) := e2
              clear HRS HSE heq e2
              go_wp2_with fail
              have hwr : IntKind.i64.wrap ((q : Int) + 1) = (q : Int) + 1 := IntWalk.i64_in _ ⟨by omega, by omega⟩
              have hq1 : ((q : Int) + 1).toNat = q + 1 := by omega
              have hpq2 : p ≤ q + 1 := by omega
              have hq0 : (0 : Int) ≤ (q : Int) + 1 := by omega
              have HS : Hid (∀ w', Below w.heap.size w w' → Below w.heap.size w w' ∧ (convert 37 9 (.slice (some ⟨b, off + p, none⟩) (q + 1 - p) (cap - p))).run Try.prog w' = .ok (.string (str sg)) w') := fun w' hb => ⟨hb, conv_row (rs.later hb) _⟩
              have hd0 : Below w.heap.size w w.drew := (Below.refl _ _).drew
              refine wp_region_noPanic ?_
              refine wp_region_held_drew (S := (fun w' => Below w.heap.size w w' ∧ (convert 37 9 (.slice (some ⟨b, off + p, none⟩) (q + 1 - p) (cap - p))).run Try.prog w' = .ok (.string (str sg)) w')) (by kernel_rfl) ?_ (fun hHeld => ?_)
              · exact HS.out _ hd0
              refine held_take (i := 0) (d := 54) (v := ?_) rfl rfl (by kernel_rfl) (by kernel_rfl) (by kernel_rfl) (fun _ _ _ h => h) (Or.inl ⟨by rfl, ?_⟩) hHeld ?_
              rotate_left
              · (intro w hSw; (try dsimp only at hSw); go_simp; all_goals (with_reducible rfl))
              try simp only [Act.put, List.setIfInBounds_toArray, List.set_cons_zero, List.set_cons_succ]
              refine held_take (i := 3) (d := 57) (v := ?_) rfl rfl (by kernel_rfl) (by kernel_rfl) (by kernel_rfl) (fun _ _ _ h => h) (Or.inl ⟨by rfl, ?_⟩) hHeld ?_
              rotate_left
              · (intro w hSw; (try dsimp only at hSw); go_simp; all_goals (with_reducible rfl))
              try simp only [Act.put, List.setIfInBounds_toArray, List.set_cons_zero, List.set_cons_succ]
              refine held_take (i := 4) (d := 58) (v := ?_) rfl rfl (by kernel_rfl) (by kernel_rfl) (by kernel_rfl) (fun _ _ _ h => h) (Or.inl ⟨by rfl, ?_⟩) hHeld ?_
              rotate_left
              · (intro w hSw; (try dsimp only at hSw); go_simp; all_goals (with_reducible rfl))
              try simp only [Act.put, List.setIfInBounds_toArray, List.set_cons_zero, List.set_cons_succ]
              refine held_take (i := 5) (d := 59) (v := ?_) rfl rfl (by kernel_rfl) (by kernel_rfl) (by kernel_rfl) (fun _ _ _ h => h) (Or.inl ⟨by rfl, ?_⟩) hHeld ?_
              rotate_left
              · (intro w hSw; (try dsimp only at hSw); go_simp; all_goals (with_reducible rfl))
              try simp only [Act.put, List.setIfInBounds_toArray, List.set_cons_zero, List.set_cons_succ]
              refine held_take (i := 6) (d := 60) (v := ?_) rfl rfl (by kernel_rfl) (by kernel_rfl) (by kernel_rfl) (fun _ _ _ h => h) (Or.inl ⟨by rfl, ?_⟩) hHeld ?_
              rotate_left
              · (intro w hSw; (try dsimp only at hSw); go_simp; all_goals (with_reducible rfl))
              try simp only [Act.put, List.setIfInBounds_toArray, List.set_cons_zero, List.set_cons_succ]
              refine held_take (i := 7) (d := 61) (v := ?_) rfl rfl (by kernel_rfl) (by kernel_rfl) (by kernel_rfl) (fun _ _ _ h => h) (Or.inl ⟨by rfl, ?_⟩) hHeld ?_
              rotate_left
              · (intro w hSw; (try dsimp only at hSw); go_simp; all_goals (with_reducible rfl))
              try simp only [Act.put, List.setIfInBounds_toArray, List.set_cons_zero, List.set_cons_succ]
              refine held_take (i := 8) (d := 62) (v := ?_) rfl rfl (by kernel_rfl) (by kernel_rfl) (by kernel_rfl) (fun _ _ _ h => h) (Or.inl ⟨by rfl, ?_⟩) hHeld ?_
              rotate_left
              · (intro w hSw; (try dsimp only at hSw); go_simp; all_goals (with_reducible rfl))
              try simp only [Act.put, List.setIfInBounds_toArray, List.set_cons_zero, List.set_cons_succ]
              refine wpAnyH_ready (rs := [1]) (by kernel_rfl) (by simp) ?_
              refine AllReadyH.cons rfl (fun K hK => ?_) AllReadyH.nil
              go_simp
              refine (ref_put_any 9 v _ (by omega) (by omega)).mono ?_
              rintro e w3 ⟨g3, N3, cap3, rfl, ho3, hb4⟩
              have r3 : Row w3 (some ⟨g3, 0, none⟩) N3 (Oct.put v) := ho3.row
              replace hb4 : Below w.heap.size w w3 := hd0.trans hb4
              go_wp2_with fail
              refine hK.out _ _ ?_ (fun hHeld => ?_)
              · exact HS.out _ hb4
              clear hK K
              try simp only [Act.put, List.setIfInBounds_toArray, List.set_cons_zero, List.set_cons_succ]
              have HS2 : Hid (∀ w', Below w3.heap.size w3 w' → (Below w.heap.size w w' ∧ (convert 37 9 (.slice (some ⟨b, off + p, none⟩) (q + 1 - p) (cap - p))).run Try.prog w' = .ok (.string (str sg)) w') ∧ (convert 37 9 (.slice (some ⟨g3, 0, none⟩) N3 cap3)).run Try.prog w' = .ok (.string (str (Oct.put v))) w') := fun w' hb => ⟨HS.out _ (hb4.trans (hb.mono hb4.size)), conv_row (r3.later hb) _⟩
              refine held_mono (S' := (fun w' => (Below w.heap.size w w' ∧ (convert 37 9 (.slice (some ⟨b, off + p, none⟩) (q + 1 - p) (cap - p))).run Try.prog w' = .ok (.string (str sg)) w') ∧ (convert 37 9 (.slice (some ⟨g3, 0, none⟩) N3 cap3)).run Try.prog w' = .ok (.string (str (Oct.put v))) w')) (fun _ h => h.1) _ _ _ _ ?_
              replace hHeld := HS2.out _ (Below.refl _ _)
              refine held_take (i := 2) (d := 56) (v := ?_) rfl rfl (by kernel_rfl) (by kernel_rfl) (by kernel_rfl) (fun _ _ _ h => h) (Or.inl ⟨by rfl, ?_⟩) hHeld ?_
              rotate_left
              · (intro w hSw; (try dsimp only at hSw); go_simp; all_goals (with_reducible rfl))
              try simp only [Act.put, List.setIfInBounds_toArray, List.set_cons_zero, List.set_cons_succ]
              refine held_take (i := 9) (d := 63) (v := ?_) rfl rfl (by kernel_rfl) (by kernel_rfl) (by kernel_rfl) (fun _ _ _ h => h) (Or.inl ⟨by rfl, ?_⟩) hHeld ?_
              rotate_left
              · (intro w hSw; (try dsimp only at hSw); go_simp; all_goals (with_reducible rfl))
              try simp only [Act.put, List.setIfInBounds_toArray, List.set_cons_zero, List.set_cons_succ]
              refine wpAnyH_done (by kernel_rfl) ?_ _
              refine NoPanic.normal ?_
              go_wp2
              go_ret2
              exact ⟨by rw [E2.out]; simp only [HRES.out]; rfl, hb4⟩
            · have e2 : R = (0, 0) := by rw [HRS.out, if_neg heq]
              have hsd : ((str (Oct.put v)).toList == (str sg).toList) = false := by rw [HSE]; simp [heq]
              subst e2
              clear HRS HSE heq
              go_wp2_with fail
              have hwr : IntKind.i64.wrap ((q : Int) + 1) = (q : Int) + 1 := IntWalk.i64_in _ ⟨by omega, by omega⟩
              have hq1 : ((q : Int) + 1).toNat = q + 1 := by omega
              have hpq2 : p ≤ q + 1 := by omega
              have hq0 : (0 : Int) ≤ (q : Int) + 1 := by omega
              have HS : Hid (∀ w', Below w.heap.size w w' → Below w.heap.size w w' ∧ (convert 37 9 (.slice (some ⟨b, off + p, none⟩) (q + 1 - p) (cap - p))).run Try.prog w' = .ok (.string (str sg)) w') := fun w' hb => ⟨hb, conv_row (rs.later hb) _⟩
              have hd0 : Below w.heap.size w w.drew := (Below.refl _ _).drew
              refine wp_region_noPanic ?_
              refine wp_region_held_drew (S := (fun w' => Below w.heap.size w w' ∧ (convert 37 9 (.slice (some ⟨b, off + p, none⟩) (q + 1 - p) (cap - p))).run Try.prog w' = .ok (.string (str sg)) w')) (by kernel_rfl) ?_ (fun hHeld => ?_)
              · exact HS.out _ hd0
              refine held_take (i := 0) (d := 54) (v := ?_) rfl rfl (by kernel_rfl) (by kernel_rfl) (by kernel_rfl) (fun _ _ _ h => h) (Or.inl ⟨by rfl, ?_⟩) hHeld ?_
              rotate_left
              · (intro w hSw; (try dsimp only at hSw); go_simp; all_goals (with_reducible rfl))
              try simp only [Act.put, List.setIfInBounds_toArray, List.set_cons_zero, List.set_cons_succ]
              refine held_take (i := 3) (d := 57) (v := ?_) rfl rfl (by kernel_rfl) (by kernel_rfl) (by kernel_rfl) (fun _ _ _ h => h) (Or.inl ⟨by rfl, ?_⟩) hHeld ?_
              rotate_left
              · (intro w hSw; (try dsimp only at hSw); go_simp; all_goals (with_reducible rfl))
              try simp only [Act.put, List.setIfInBounds_toArray, List.set_cons_zero, List.set_cons_succ]
              refine held_take (i := 4) (d := 58) (v := ?_) rfl rfl (by kernel_rfl) (by kernel_rfl) (by kernel_rfl) (fun _ _ _ h => h) (Or.inl ⟨by rfl, ?_⟩) hHeld ?_
              rotate_left
              · (intro w hSw; (try dsimp only at hSw); go_simp; all_goals (with_reducible rfl))
              try simp only [Act.put, List.setIfInBounds_toArray, List.set_cons_zero, List.set_cons_succ]
              refine held_take (i := 5) (d := 59) (v := ?_) rfl rfl (by kernel_rfl) (by kernel_rfl) (by kernel_rfl) (fun _ _ _ h => h) (Or.inl ⟨by rfl, ?_⟩) hHeld ?_
              rotate_left
              · (intro w hSw; (try dsimp only at hSw); go_simp; all_goals (with_reducible rfl))
              try simp only [Act.put, List.setIfInBounds_toArray, List.set_cons_zero, List.set_cons_succ]
              refine held_take (i := 6) (d := 60) (v := ?_) rfl rfl (by kernel_rfl) (by kernel_rfl) (by kernel_rfl) (fun _ _ _ h => h) (Or.inl ⟨by rfl, ?_⟩) hHeld ?_
              rotate_left
              · (intro w hSw; (try dsimp only at hSw); go_simp; all_goals (with_reducible rfl))
              try simp only [Act.put, List.setIfInBounds_toArray, List.set_cons_zero, List.set_cons_succ]
              refine held_take (i := 7) (d := 61) (v := ?_) rfl rfl (by kernel_rfl) (by kernel_rfl) (by kernel_rfl) (fun _ _ _ h => h) (Or.inl ⟨by rfl, ?_⟩) hHeld ?_
              rotate_left
              · (intro w hSw; (try dsimp only at hSw); go_simp; all_goals (with_reducible rfl))
              try simp only [Act.put, List.setIfInBounds_toArray, List.set_cons_zero, List.set_cons_succ]
              refine held_take (i := 8) (d := 62) (v := ?_) rfl rfl (by kernel_rfl) (by kernel_rfl) (by kernel_rfl) (fun _ _ _ h => h) (Or.inl ⟨by rfl, ?_⟩) hHeld ?_
              rotate_left
              · (intro w hSw; (try dsimp only at hSw); go_simp; all_goals (with_reducible rfl))
              try simp only [Act.put, List.setIfInBounds_toArray, List.set_cons_zero, List.set_cons_succ]
              refine wpAnyH_ready (rs := [1]) (by kernel_rfl) (by simp) ?_
              refine AllReadyH.cons rfl (fun K hK => ?_) AllReadyH.nil
              go_simp
              refine (ref_put_any 9 v _ (by omega) (by omega)).mono ?_
              rintro e w3 ⟨g3, N3, cap3, rfl, ho3, hb4⟩
              have r3 : Row w3 (some ⟨g3, 0, none⟩) N3 (Oct.put v) := ho3.row
              replace hb4 : Below w.heap.size w w3 := hd0.trans hb4
              go_wp2_with fail
              refine hK.out _ _ ?_ (fun hHeld => ?_)
              · exact HS.out _ hb4
              clear hK K
              try simp only [Act.put, List.setIfInBounds_toArray, List.set_cons_zero, List.set_cons_succ]
              have HS2 : Hid (∀ w', Below w3.heap.size w3 w' → (Below w.heap.size w w' ∧ (convert 37 9 (.slice (some ⟨b, off + p, none⟩) (q + 1 - p) (cap - p))).run Try.prog w' = .ok (.string (str sg)) w') ∧ (convert 37 9 (.slice (some ⟨g3, 0, none⟩) N3 cap3)).run Try.prog w' = .ok (.string (str (Oct.put v))) w') := fun w' hb => ⟨HS.out _ (hb4.trans (hb.mono hb4.size)), conv_row (r3.later hb) _⟩
              refine held_mono (S' := (fun w' => (Below w.heap.size w w' ∧ (convert 37 9 (.slice (some ⟨b, off + p, none⟩) (q + 1 - p) (cap - p))).run Try.prog w' = .ok (.string (str sg)) w') ∧ (convert 37 9 (.slice (some ⟨g3, 0, none⟩) N3 cap3)).run Try.prog w' = .ok (.string (str (Oct.put v))) w')) (fun _ h => h.1) _ _ _ _ ?_
              replace hHeld := HS2.out _ (Below.refl _ _)
              refine held_take (i := 2) (d := 56) (v := ?_) rfl rfl (by kernel_rfl) (by kernel_rfl) (by kernel_rfl) (fun _ _ _ h => h) (Or.inl ⟨by rfl, ?_⟩) hHeld ?_
              rotate_left
              · (intro w hSw; (try dsimp only at hSw); go_simp; all_goals (with_reducible rfl))
              try simp only [Act.put, List.setIfInBounds_toArray, List.set_cons_zero, List.set_cons_succ]
              refine held_take (i := 9) (d := 63) (v := ?_) rfl rfl (by kernel_rfl) (by kernel_rfl) (by kernel_rfl) (fun _ _ _ h => h) (Or.inl ⟨by rfl, ?_⟩) hHeld ?_
              rotate_left
              · (intro w hSw; (try dsimp only at hSw); go_simp; all_goals (with_reducible rfl))
              try simp only [Act.put, List.setIfInBounds_toArray, List.set_cons_zero, List.set_cons_succ]
              refine wpAnyH_done (by kernel_rfl) ?_ _
              refine NoPanic.normal ?_
              go_wp2
              go_ret2
              exact ⟨rfl, hb4⟩
end Go.Proofs.Ytbikepmnjgcgkaa
