/-
  SpaceSame (P10.2): for all calls of two spaces, they are the same just if their keys and objects are. No condition.
-/
import Derived.Test.YtmahigfamgbhfaaRows
import Derived.Test.YtmahigfamgbhfaaSqA
import Derived.Test.YtmahigfamgbhfaaSpW
import Derived.Test.YtmahigfamgbhfaaSpE
import Derived.WalkKit
import Derived.ProofKit
import Derived.OpenShut
import Derived.ShutString
import Derived.ChangeOld
import Derived.Below
namespace Go.Proofs.Ytmahigfamgbhfaa.spaceSame
open Go.ChangeShapes Go.WideShapes Go.ChangeAt Go.RowKit
open Go.ChangeMaps (open_string shut_string)
set_option linter.unusedSimpArgs false
set_option linter.unusedVariables false

theorem own : ownKnob Try.prog.godebug = none := by kernel_rfl
theorem laidOut : laidOutB Try.prog = true := by kernel_rfl

/-! The law returns true, and writes nothing that was there. -/
set_option maxRecDepth 100000 in
set_option maxHeartbeats 16000000 in
theorem walk (a0 : Option Addr) (len0 cap0 : Nat) (O0 : Nat → Sop) (a1 : Option Addr) (len1 cap1 : Nat) (O1 : Nat → Sop) (w : World) (w0 : Sops w a0 len0 O0) (w1 : Sops w a1 len1 O1) :
    Calls Try.prog 9 #[.slice a0 len0 cap0, .slice a1 len1 cap1] w fun e w' => e = .returned (.bool true) ∧ Below w.heap.size w w' := by
  have HO0 : Hid (Sops w a0 len0 O0) := w0
  have HO1 : Hid (Sops w a1 len1 O1) := w1
  have hlen0 : len0 ≤ 9223372036854775807 := by have := w0.1; unfold maxLen at this; omega
  have hlen1 : len1 ≤ 9223372036854775807 := by have := w1.1; unfold maxLen at this; omega
  clear w0 w1
  go_enter Try.func9, Try.ntmps9
  go_wp2_with fail
  refine (new_any w).mono ?_
  rintro e v1 ⟨g1, bm1, rfl, hs1, hb1, hg1, hbm1⟩
  have b1 : Below v1.heap.size v1 (v1.alloc (.cells #[.slice none 0 0] 59)) := (Below.refl _ _).alloc (Nat.le_refl _) _
  have HS1 : Hid (St 0 (v1.alloc (.cells #[.slice none 0 0] 59)) g1 bm1 v1.heap.size (fun _ => []) []) := St.new v1 g1 bm1 hs1
  have HB1 : Hid (Below w.heap.size w (v1.alloc (.cells #[.slice none 0 0] 59))) := hb1.trans (b1.mono hb1.size)
  have HP1 : Hid (w.heap.size ≤ bm1 ∧ w.heap.size ≤ v1.heap.size ∧ bm1 < v1.heap.size ∧ v1.heap.size < (v1.alloc (.cells #[.slice none 0 0] 59)).heap.size) := ⟨hbm1, hb1.size, hs1.map.lt, by simp⟩
  clear hs1 hb1 hg1 hbm1 b1
  go_upto_region 2 with fail
  generalize hv2 : v1.alloc (.cells #[.slice none 0 0] 59) = v2 at *
  clear hv2
  generalize v1.heap.size = gr1 at *
  go_wp2_with fail
  refine (new_any v2).mono ?_
  rintro e v3 ⟨g2, bm2, rfl, hs2, hb2, hg2, hbm2⟩
  have b3 : Below v3.heap.size v3 (v3.alloc (.cells #[.slice none 0 0] 59)) := (Below.refl _ _).alloc (Nat.le_refl _) _
  have HT2 : Hid (St 0 (v3.alloc (.cells #[.slice none 0 0] 59)) g2 bm2 v3.heap.size (fun _ => []) []) := St.new v3 g2 bm2 hs2
  have HT1 : Hid (St 0 (v3.alloc (.cells #[.slice none 0 0] 59)) g1 bm1 gr1 (fun _ => []) []) := (HS1.out.later hb2).later b3
  have HB2 : Hid (Below w.heap.size w (v3.alloc (.cells #[.slice none 0 0] 59))) := (HB1.out.trans (hb2.mono HB1.out.size)).trans (b3.mono (by have := HB1.out.size; have := hb2.size; omega))
  have HNE : Hid (bm1 ≠ bm2 ∧ gr1 ≠ v3.heap.size ∧ w.heap.size ≤ bm1 ∧ w.heap.size ≤ gr1 ∧ w.heap.size ≤ bm2 ∧ w.heap.size ≤ v3.heap.size) := by
    have h1 := HP1.out
    have h2 := hb2.size
    refine ⟨?_, ?_, ?_, ?_, ?_, ?_⟩ <;> omega
  clear hs2 hb2 hg2 hbm2 b3 HS1 HB1 HP1
  go_wp2
  generalize hv4 : v3.alloc (.cells #[.slice none 0 0] 59) = v4 at *
  clear hv4
  generalize v3.heap.size = gr2 at *
  go_loopw [24] (fun t wr => ∃ k c : Nat, t = .int .i64 (k : Nat) ∧ k ≤ len0 ∧ c ≤ k ∧ c ≤ 12 ∧ Hid (∃ F L, St c wr g1 bm1 gr1 F L) ∧ Hid (St 0 wr g2 bm2 gr2 (fun _ => []) []) ∧ Hid (Below w.heap.size w wr)) (fun t _ => len0 - (intOf t).toNat)
  case atStart => exact ⟨0, 0, rfl, by omega, by omega, by omega, ⟨_, _, HT1.out⟩, HT2.out, HB2.out⟩
  case round =>
    clear HT1 HT2 HB2
    obtain ⟨k, c, rfl, hk, hck, hc12, HF, HT, HW⟩ := hrel
    by_cases hlt : k < len0
    · obtain ⟨b, off, rfl, hc⟩ := HO0.out.at (by omega)
      obtain ⟨hok, d0, d1, d2, d3, d4⟩ := hc k hlt
      have d0 := (HW.out.cell (World.block_lt_of_cell? _ _ d0)).trans d0
      have d1 := (HW.out.cell (World.block_lt_of_cell? _ _ d1)).trans d1
      have d2 := (HW.out.cell (World.block_lt_of_cell? _ _ d2)).trans d2
      have d3 := (HW.out.cell (World.block_lt_of_cell? _ _ d3)).trans d3
      have d4 := (HW.out.cell (World.block_lt_of_cell? _ _ d4)).trans d4
      have HOK : Hid (O0 k).ok := hok
      clear hc hok
      generalize O0 k = u at d0 d1 d2 d3 d4 HOK
      have HX : Hid (Below wr.heap.size wr (wr.alloc (.cells #[.int .i64 u.kind, .string u.key, .int .i64 u.pos, .string u.val, .bool u.gone] 61))) := (Below.refl _ _).alloc (Nat.le_refl _) _
      by_cases h12 : k < 12
      · obtain ⟨F, L, hst⟩ := HF.out
        have HSX : Hid (St c (wr.alloc (.cells #[.int .i64 u.kind, .string u.key, .int .i64 u.pos, .string u.val, .bool u.gone] 61)) g1 bm1 gr1 F L) := hst.later HX.out
        have h1 := step_any c g1 bm1 gr1 F L u.kind u.key u.pos u.val u.gone _ HSX.out (by omega) HOK.out.pos HOK.out.key HOK.out.val
        clear hst
        go_wp2_with fail
        refine h1.mono ?_
        clear h1
        rintro e w5 ⟨rfl, hst5, ht5⟩
        have HST5 : Hid (∃ F L, St (c + 1) w5 g1 bm1 gr1 F L) := hst5
        have HT5 := St.aside (HT.out.later HX.out) HSX.out ht5 HNE.out.1.symm HNE.out.2.1.symm
        have HW5 : Hid (Below w.heap.size w w5) := (HW.out.trans (HX.out.mono HW.out.size)).trans (ht5.below HNE.out.2.2.1 HNE.out.2.2.2.1 (by have := HW.out.size; have := HX.out.size; omega))
        have HT6 := hid_of HT5
        clear hst5 ht5 HT5 HSX d0 d1 d2 d3 d4
        go_wp2
        go_roundw
        case rel => exact ⟨k + 1, c + 1, by go_num, by omega, by omega, by omega, HST5, HT6, HW5⟩
        case measure => simp [intOf]; omega
      · have HF5 : Hid (∃ F L, St c (wr.alloc (.cells #[.int .i64 u.kind, .string u.key, .int .i64 u.pos, .string u.val, .bool u.gone] 61)) g1 bm1 gr1 F L) := by
          obtain ⟨F, L, hst⟩ := HF.out
          exact ⟨F, L, hst.later HX.out⟩
        have HT6 := hid_of (HT.out.later HX.out)
        have HW5 : Hid (Below w.heap.size w (wr.alloc (.cells #[.int .i64 u.kind, .string u.key, .int .i64 u.pos, .string u.val, .bool u.gone] 61))) := HW.out.trans (HX.out.mono HW.out.size)
        go_wp2
        go_roundw
        case rel => exact ⟨k + 1, c, by go_num, by omega, by omega, by omega, HF5, HT6, HW5⟩
        case measure => simp [intOf]; omega
    · skip
      obtain ⟨F1, L1, hst⟩ := HF.out
      have HT1 : Hid (St c wr g1 bm1 gr1 F1 L1) := hst
      have HT2 : Hid (St 0 wr g2 bm2 gr2 (fun _ => []) []) := HT.out
      have HB2 := HW
      have hc1 := hc12
      clear hst HF HT HW
      generalize hcc : c = c1 at *
      clear hcc
      go_wp2
      clear hlt hk hck hc12
      go_loopw [38] (fun t wr => ∃ k c : Nat, t = .int .i64 (k : Nat) ∧ k ≤ len1 ∧ c ≤ k ∧ c ≤ 12 ∧ Hid (∃ F L, St c wr g2 bm2 gr2 F L) ∧ Hid (St c1 wr g1 bm1 gr1 F1 L1) ∧ Hid (Below w.heap.size w wr)) (fun t _ => len1 - (intOf t).toNat)
      case atStart => exact ⟨0, 0, rfl, by omega, by omega, by omega, ⟨_, _, HT2.out⟩, HT1.out, HB2.out⟩
      case round =>
        clear HT1 HT2 HB2
        obtain ⟨k, c, rfl, hk, hck, hc12, HF, HT, HW⟩ := hrel
        by_cases hlt : k < len1
        · obtain ⟨b, off, rfl, hc⟩ := HO1.out.at (by omega)
          obtain ⟨hok, d0, d1, d2, d3, d4⟩ := hc k hlt
          have d0 := (HW.out.cell (World.block_lt_of_cell? _ _ d0)).trans d0
          have d1 := (HW.out.cell (World.block_lt_of_cell? _ _ d1)).trans d1
          have d2 := (HW.out.cell (World.block_lt_of_cell? _ _ d2)).trans d2
          have d3 := (HW.out.cell (World.block_lt_of_cell? _ _ d3)).trans d3
          have d4 := (HW.out.cell (World.block_lt_of_cell? _ _ d4)).trans d4
          have HOK : Hid (O1 k).ok := hok
          clear hc hok
          generalize O1 k = u at d0 d1 d2 d3 d4 HOK
          have HX : Hid (Below wr.heap.size wr (wr.alloc (.cells #[.int .i64 u.kind, .string u.key, .int .i64 u.pos, .string u.val, .bool u.gone] 61))) := (Below.refl _ _).alloc (Nat.le_refl _) _
          by_cases h12 : k < 12
          · obtain ⟨F, L, hst⟩ := HF.out
            have HSX : Hid (St c (wr.alloc (.cells #[.int .i64 u.kind, .string u.key, .int .i64 u.pos, .string u.val, .bool u.gone] 61)) g2 bm2 gr2 F L) := hst.later HX.out
            have h1 := step_any c g2 bm2 gr2 F L u.kind u.key u.pos u.val u.gone _ HSX.out (by omega) HOK.out.pos HOK.out.key HOK.out.val
            clear hst
            go_wp2_with fail
            refine h1.mono ?_
            clear h1
            rintro e w5 ⟨rfl, hst5, ht5⟩
            have HST5 : Hid (∃ F L, St (c + 1) w5 g2 bm2 gr2 F L) := hst5
            have HT5 := St.aside (HT.out.later HX.out) HSX.out ht5 HNE.out.1 HNE.out.2.1
            have HW5 : Hid (Below w.heap.size w w5) := (HW.out.trans (HX.out.mono HW.out.size)).trans (ht5.below HNE.out.2.2.2.2.1 HNE.out.2.2.2.2.2 (by have := HW.out.size; have := HX.out.size; omega))
            have HT6 := hid_of HT5
            clear hst5 ht5 HT5 HSX d0 d1 d2 d3 d4
            go_wp2
            go_roundw
            case rel => exact ⟨k + 1, c + 1, by go_num, by omega, by omega, by omega, HST5, HT6, HW5⟩
            case measure => simp [intOf]; omega
          · have HF5 : Hid (∃ F L, St c (wr.alloc (.cells #[.int .i64 u.kind, .string u.key, .int .i64 u.pos, .string u.val, .bool u.gone] 61)) g2 bm2 gr2 F L) := by
              obtain ⟨F, L, hst⟩ := HF.out
              exact ⟨F, L, hst.later HX.out⟩
            have HT6 := hid_of (HT.out.later HX.out)
            have HW5 : Hid (Below w.heap.size w (wr.alloc (.cells #[.int .i64 u.kind, .string u.key, .int .i64 u.pos, .string u.val, .bool u.gone] 61))) := HW.out.trans (HX.out.mono HW.out.size)
            go_wp2
            go_roundw
            case rel => exact ⟨k + 1, c, by go_num, by omega, by omega, by omega, HF5, HT6, HW5⟩
            case measure => simp [intOf]; omega
        · skip
          obtain ⟨F2, L2, hst⟩ := HF.out
          have HS2 : Hid (St c wr g2 bm2 gr2 F2 L2) := hst
          have HS1 : Hid (St c1 wr g1 bm1 gr1 F1 L1) := HT.out
          obtain ⟨ra1, rk1, rc1, hx1, hrow1, -⟩ := HS1.out.rs.box
          obtain ⟨ra2, rk2, rc2, hx2, hrow2, -⟩ := HS2.out.rs.box
          obtain rfl := hrow1.1
          obtain rfl := hrow2.1
          have hcap1 : L1.length ≤ 1000000 := hrow1.2.1
          have hcap2 : L2.length ≤ 1000000 := hrow2.2.1
          have HR1 : Hid (RRow wr ra1 L1.length L1) := hrow1
          have HR2 : Hid (RRow wr ra2 L2.length L2) := hrow2
          have HX1 : Hid (wr.heap[gr1]? = some (.cells #[.slice ra1 L1.length rc1] 59)) := hx1
          have HX2 : Hid (wr.heap[gr2]? = some (.cells #[.slice ra2 L2.length rc2] 59)) := hx2
          have q1 : wr.cell? ⟨gr1, 0, none⟩ = some (.slice ra1 L1.length rc1) := cell_of_heap hx1 rfl
          have q2 : wr.cell? ⟨gr2, 0, none⟩ = some (.slice ra2 L2.length rc2) := cell_of_heap hx2 rfl
          clear hst HF HT hrow1 hrow2 hx1 hx2
          go_upto_region 15 with fail
          clear hlt hk hck hc12
          generalize wr = y0 at *
          refine wp_region_noPanic ?_
          refine wp_region_held_drew (S := (fun w' => w'.cell? ⟨gr1, 0, none⟩ = some (.slice ra1 L1.length rc1) ∧ w'.cell? ⟨gr2, 0, none⟩ = some (.slice ra2 L2.length rc2))) (by kernel_rfl) ?_ (fun hHeld => ?_)
          · exact ⟨q1, q2⟩
          refine held_take (i := 0) (d := 50) (v := ?_) rfl rfl (by kernel_rfl) (by kernel_rfl) (by kernel_rfl) (fun _ _ _ h => h) (Or.inl ⟨by rfl, ?_⟩) hHeld ?_
          rotate_left
          · (intro w hSw; (try dsimp only at hSw); go_simp; all_goals (with_reducible rfl))
          try simp only [Act.put, List.setIfInBounds_toArray, List.set_cons_zero, List.set_cons_succ]
          refine held_take (i := 1) (d := 51) (v := ?_) rfl rfl (by kernel_rfl) (by kernel_rfl) (by kernel_rfl) (fun _ _ _ h => h) (Or.inl ⟨by rfl, ?_⟩) hHeld ?_
          rotate_left
          · (intro w hSw; (try dsimp only at hSw); go_simp; all_goals (with_reducible rfl))
          try simp only [Act.put, List.setIfInBounds_toArray, List.set_cons_zero, List.set_cons_succ]
          refine held_take (i := 2) (d := 52) (v := ?_) rfl rfl (by kernel_rfl) (by kernel_rfl) (by kernel_rfl) (fun _ _ _ h => h) (Or.inl ⟨by rfl, ?_⟩) hHeld ?_
          rotate_left
          · (intro w hSw; (try dsimp only at hSw); go_simp; all_goals (with_reducible rfl))
          try simp only [Act.put, List.setIfInBounds_toArray, List.set_cons_zero, List.set_cons_succ]
          refine held_take (i := 3) (d := 53) (v := ?_) rfl rfl (by kernel_rfl) (by kernel_rfl) (by kernel_rfl) (fun _ _ _ h => h) (Or.inl ⟨by rfl, ?_⟩) hHeld ?_
          rotate_left
          · (intro w hSw; (try dsimp only at hSw); go_simp; all_goals (with_reducible rfl))
          try simp only [Act.put, List.setIfInBounds_toArray, List.set_cons_zero, List.set_cons_succ]
          refine held_take (i := 4) (d := 54) (v := ?_) rfl rfl (by kernel_rfl) (by kernel_rfl) (by kernel_rfl) (fun _ _ _ h => h) (Or.inl ⟨by rfl, ?_⟩) hHeld ?_
          rotate_left
          · (intro w hSw; (try dsimp only at hSw); go_simp; all_goals (with_reducible rfl))
          try simp only [Act.put, List.setIfInBounds_toArray, List.set_cons_zero, List.set_cons_succ]
          refine held_take (i := 5) (d := 55) (v := ?_) rfl rfl (by kernel_rfl) (by kernel_rfl) (by kernel_rfl) (fun _ _ _ h => h) (Or.inl ⟨by rfl, ?_⟩) hHeld ?_
          rotate_left
          · (intro w hSw; (try dsimp only at hSw); go_simp; all_goals (with_reducible rfl))
          try simp only [Act.put, List.setIfInBounds_toArray, List.set_cons_zero, List.set_cons_succ]
          refine held_take (i := 6) (d := 56) (v := ?_) rfl rfl (by kernel_rfl) (by kernel_rfl) (by kernel_rfl) (fun _ _ _ h => h) (Or.inl ⟨by rfl, ?_⟩) hHeld ?_
          rotate_left
          · (intro w hSw; (try dsimp only at hSw); go_simp; all_goals (with_reducible rfl))
          try simp only [Act.put, List.setIfInBounds_toArray, List.set_cons_zero, List.set_cons_succ]
          refine held_take (i := 7) (d := 57) (v := ?_) rfl rfl (by kernel_rfl) (by kernel_rfl) (by kernel_rfl) (fun _ _ _ h => h) (Or.inl ⟨by rfl, ?_⟩) hHeld ?_
          rotate_left
          · (intro w hSw; (try dsimp only at hSw); go_simp; all_goals (with_reducible rfl))
          try simp only [Act.put, List.setIfInBounds_toArray, List.set_cons_zero, List.set_cons_succ]
          refine held_take (i := 8) (d := 58) (v := ?_) rfl rfl (by kernel_rfl) (by kernel_rfl) (by kernel_rfl) (fun _ _ _ h => h) (Or.inl ⟨by rfl, ?_⟩) hHeld ?_
          rotate_left
          · (intro w hSw; (try dsimp only at hSw); go_simp; all_goals (with_reducible rfl))
          try simp only [Act.put, List.setIfInBounds_toArray, List.set_cons_zero, List.set_cons_succ]
          refine held_take (i := 9) (d := 59) (v := ?_) rfl rfl (by kernel_rfl) (by kernel_rfl) (by kernel_rfl) (fun _ _ _ h => h) (Or.inl ⟨by rfl, ?_⟩) hHeld ?_
          rotate_left
          · (intro w hSw; (try dsimp only at hSw); go_simp; all_goals (with_reducible rfl))
          try simp only [Act.put, List.setIfInBounds_toArray, List.set_cons_zero, List.set_cons_succ]
          refine held_take (i := 10) (d := 60) (v := ?_) rfl rfl (by kernel_rfl) (by kernel_rfl) (by kernel_rfl) (fun _ _ _ h => h) (Or.inl ⟨by rfl, ?_⟩) hHeld ?_
          rotate_left
          · (intro w hSw; (try dsimp only at hSw); go_simp; all_goals (with_reducible rfl))
          try simp only [Act.put, List.setIfInBounds_toArray, List.set_cons_zero, List.set_cons_succ]
          refine held_take (i := 11) (d := 13) (v := ?_) rfl rfl (by kernel_rfl) (by kernel_rfl) (by kernel_rfl) (fun _ _ _ h => h) (Or.inl ⟨by rfl, ?_⟩) hHeld ?_
          rotate_left
          · (intro w hSw; (try dsimp only at hSw); go_simp; all_goals (with_reducible rfl))
          try simp only [Act.put, List.setIfInBounds_toArray, List.set_cons_zero, List.set_cons_succ]
          refine wpAnyH_done (by kernel_rfl) ?_ _
          refine NoPanic.normal ?_
          have hy0 := HW.out.size
          go_wp2
          go_loopw [13, 66] (fun wv t wr => ∃ k : Nat, t = .int .i64 (k : Nat) ∧ k ≤ L1.length ∧ wv = .bool (wantK L1 L2 k) ∧ Hid (Below y0.heap.size y0 wr)) (fun _ t _ => L1.length - (intOf t).toNat)
          case atStart => exact ⟨0, rfl, by omega, by simp [wantK, int_beq], (Below.refl _ _).drew⟩
          case round =>
            clear q1 q2
            obtain ⟨k, rfl, hk, rfl, HV⟩ := hrel
            by_cases hlt : k < L1.length
            · obtain ⟨b1, off1, rfl, hc1x⟩ := HR1.out.at (by omega)
              obtain ⟨d0, uu, d1, ua, uk, uc, rfl, hv1, -⟩ := hc1x k hlt
              have HV1 : Hid (VRow y0 ua uk (rvers L1 k)) := hv1
              have d0 := (HV.out.cell (World.block_lt_of_cell? _ _ d0)).trans d0
              have d1 := (HV.out.cell (World.block_lt_of_cell? _ _ d1)).trans d1
              clear hc1x hv1
              have HXX : Hid ((wr.alloc (.cells #[.string (rkey L1 k), .slice ua uk uc] 66)).heap[wr.heap.size]? = some (.cells #[.string (rkey L1 k), .slice ua uk uc] 66)) := heap_alloc_new wr _
              have HVX : Hid (Below y0.heap.size y0 (wr.alloc (.cells #[.string (rkey L1 k), .slice ua uk uc] 66))) := HV.out.alloc HV.out.size _
              have HWK := wantK_next L1 L2 k
              go_upto_region 19 with fail
              clear d0 d1
              generalize hyx : wr.alloc (.cells #[.string (rkey L1 k), .slice ua uk uc] 66) = yx at *
              clear hyx
              generalize wr.heap.size = px at *
              have x0 : yx.cell? ⟨px, 0, none⟩ = some (.string (rkey L1 k)) := cell_of_heap HXX.out rfl
              have x1 : yx.cell? ⟨px, 1, none⟩ = some (.slice ua uk uc) := cell_of_heap HXX.out rfl
              cases hw : wantK L1 L2 k
              · rw [hw] at HWK
                refine wp_region_noPanic ?_
                refine wp_region_held_drew (S := (fun w' => w'.cell? ⟨px, 0, none⟩ = some (.string (rkey L1 k)) ∧ w'.cell? ⟨px, 1, none⟩ = some (.slice ua uk uc))) (by kernel_rfl) ?_ (fun hHeld => ?_)
                · exact ⟨x0, x1⟩
                refine held_take (i := 0) (d := 71) (v := ?_) rfl rfl (by kernel_rfl) (by kernel_rfl) (by kernel_rfl) (fun _ _ _ h => h) (Or.inl ⟨by rfl, ?_⟩) hHeld ?_
                rotate_left
                · (intro w hSw; (try dsimp only at hSw); go_simp; all_goals (with_reducible rfl))
                try simp only [Act.put, List.setIfInBounds_toArray, List.set_cons_zero, List.set_cons_succ]
                refine held_take (i := 1) (d := 72) (v := ?_) rfl rfl (by kernel_rfl) (by kernel_rfl) (by kernel_rfl) (fun _ _ _ h => h) (Or.inl ⟨by rfl, ?_⟩) hHeld ?_
                rotate_left
                · (intro w hSw; (try dsimp only at hSw); go_simp; all_goals (with_reducible rfl))
                try simp only [Act.put, List.setIfInBounds_toArray, List.set_cons_zero, List.set_cons_succ]
                refine held_take (i := 2) (d := 73) (v := undef) rfl rfl (by kernel_rfl) (by kernel_rfl) (by kernel_rfl) (fun _ _ _ h => h) (Or.inr ⟨by rfl, rfl⟩) hHeld ?_
                try simp only [Act.put, List.setIfInBounds_toArray, List.set_cons_zero, List.set_cons_succ]
                refine held_take (i := 3) (d := 74) (v := undef) rfl rfl (by kernel_rfl) (by kernel_rfl) (by kernel_rfl) (fun _ _ _ h => h) (Or.inr ⟨by rfl, rfl⟩) hHeld ?_
                try simp only [Act.put, List.setIfInBounds_toArray, List.set_cons_zero, List.set_cons_succ]
                refine held_take (i := 4) (d := 75) (v := undef) rfl rfl (by kernel_rfl) (by kernel_rfl) (by kernel_rfl) (fun _ _ _ h => h) (Or.inr ⟨by rfl, rfl⟩) hHeld ?_
                try simp only [Act.put, List.setIfInBounds_toArray, List.set_cons_zero, List.set_cons_succ]
                refine held_take (i := 5) (d := 76) (v := undef) rfl rfl (by kernel_rfl) (by kernel_rfl) (by kernel_rfl) (fun _ _ _ h => h) (Or.inr ⟨by rfl, rfl⟩) hHeld ?_
                try simp only [Act.put, List.setIfInBounds_toArray, List.set_cons_zero, List.set_cons_succ]
                refine held_take (i := 6) (d := 77) (v := undef) rfl rfl (by kernel_rfl) (by kernel_rfl) (by kernel_rfl) (fun _ _ _ h => h) (Or.inr ⟨by rfl, rfl⟩) hHeld ?_
                try simp only [Act.put, List.setIfInBounds_toArray, List.set_cons_zero, List.set_cons_succ]
                refine held_take (i := 7) (d := 78) (v := undef) rfl rfl (by kernel_rfl) (by kernel_rfl) (by kernel_rfl) (fun _ _ _ h => h) (Or.inr ⟨by rfl, rfl⟩) hHeld ?_
                try simp only [Act.put, List.setIfInBounds_toArray, List.set_cons_zero, List.set_cons_succ]
                refine held_take (i := 8) (d := 79) (v := undef) rfl rfl (by kernel_rfl) (by kernel_rfl) (by kernel_rfl) (fun _ _ _ h => h) (Or.inr ⟨by rfl, rfl⟩) hHeld ?_
                try simp only [Act.put, List.setIfInBounds_toArray, List.set_cons_zero, List.set_cons_succ]
                refine held_take (i := 9) (d := 80) (v := undef) rfl rfl (by kernel_rfl) (by kernel_rfl) (by kernel_rfl) (fun _ _ _ h => h) (Or.inr ⟨by rfl, rfl⟩) hHeld ?_
                try simp only [Act.put, List.setIfInBounds_toArray, List.set_cons_zero, List.set_cons_succ]
                refine held_take (i := 10) (d := 81) (v := undef) rfl rfl (by kernel_rfl) (by kernel_rfl) (by kernel_rfl) (fun _ _ _ h => h) (Or.inr ⟨by rfl, rfl⟩) hHeld ?_
                try simp only [Act.put, List.setIfInBounds_toArray, List.set_cons_zero, List.set_cons_succ]
                refine held_take (i := 11) (d := 82) (v := undef) rfl rfl (by kernel_rfl) (by kernel_rfl) (by kernel_rfl) (fun _ _ _ h => h) (Or.inr ⟨by rfl, rfl⟩) hHeld ?_
                try simp only [Act.put, List.setIfInBounds_toArray, List.set_cons_zero, List.set_cons_succ]
                refine held_take (i := 12) (d := 83) (v := undef) rfl rfl (by kernel_rfl) (by kernel_rfl) (by kernel_rfl) (fun _ _ _ h => h) (Or.inr ⟨by rfl, rfl⟩) hHeld ?_
                try simp only [Act.put, List.setIfInBounds_toArray, List.set_cons_zero, List.set_cons_succ]
                refine held_take (i := 13) (d := 84) (v := ?_) rfl rfl (by kernel_rfl) (by kernel_rfl) (by kernel_rfl) (fun _ _ _ h => h) (Or.inl ⟨by rfl, ?_⟩) hHeld ?_
                rotate_left
                · (intro w hSw; (try dsimp only at hSw); go_simp; all_goals (with_reducible rfl))
                try simp only [Act.put, List.setIfInBounds_toArray, List.set_cons_zero, List.set_cons_succ]
                refine held_take (i := 14) (d := 85) (v := ?_) rfl rfl (by kernel_rfl) (by kernel_rfl) (by kernel_rfl) (fun _ _ _ h => h) (Or.inl ⟨by rfl, ?_⟩) hHeld ?_
                rotate_left
                · (intro w hSw; (try dsimp only at hSw); go_simp; all_goals (with_reducible rfl))
                try simp only [Act.put, List.setIfInBounds_toArray, List.set_cons_zero, List.set_cons_succ]
                refine held_take (i := 15) (d := 86) (v := undef) rfl rfl (by kernel_rfl) (by kernel_rfl) (by kernel_rfl) (fun _ _ _ h => h) (Or.inr ⟨by rfl, rfl⟩) hHeld ?_
                try simp only [Act.put, List.setIfInBounds_toArray, List.set_cons_zero, List.set_cons_succ]
                refine held_take (i := 16) (d := 87) (v := undef) rfl rfl (by kernel_rfl) (by kernel_rfl) (by kernel_rfl) (fun _ _ _ h => h) (Or.inr ⟨by rfl, rfl⟩) hHeld ?_
                try simp only [Act.put, List.setIfInBounds_toArray, List.set_cons_zero, List.set_cons_succ]
                refine held_take (i := 17) (d := 88) (v := undef) rfl rfl (by kernel_rfl) (by kernel_rfl) (by kernel_rfl) (fun _ _ _ h => h) (Or.inr ⟨by rfl, rfl⟩) hHeld ?_
                try simp only [Act.put, List.setIfInBounds_toArray, List.set_cons_zero, List.set_cons_succ]
                refine held_take (i := 18) (d := 89) (v := undef) rfl rfl (by kernel_rfl) (by kernel_rfl) (by kernel_rfl) (fun _ _ _ h => h) (Or.inr ⟨by rfl, rfl⟩) hHeld ?_
                try simp only [Act.put, List.setIfInBounds_toArray, List.set_cons_zero, List.set_cons_succ]
                refine held_take (i := 19) (d := 90) (v := undef) rfl rfl (by kernel_rfl) (by kernel_rfl) (by kernel_rfl) (fun _ _ _ h => h) (Or.inr ⟨by rfl, rfl⟩) hHeld ?_
                try simp only [Act.put, List.setIfInBounds_toArray, List.set_cons_zero, List.set_cons_succ]
                refine held_take (i := 20) (d := 91) (v := undef) rfl rfl (by kernel_rfl) (by kernel_rfl) (by kernel_rfl) (fun _ _ _ h => h) (Or.inr ⟨by rfl, rfl⟩) hHeld ?_
                try simp only [Act.put, List.setIfInBounds_toArray, List.set_cons_zero, List.set_cons_succ]
                refine held_take (i := 21) (d := 92) (v := undef) rfl rfl (by kernel_rfl) (by kernel_rfl) (by kernel_rfl) (fun _ _ _ h => h) (Or.inr ⟨by rfl, rfl⟩) hHeld ?_
                try simp only [Act.put, List.setIfInBounds_toArray, List.set_cons_zero, List.set_cons_succ]
                refine held_take (i := 22) (d := 93) (v := undef) rfl rfl (by kernel_rfl) (by kernel_rfl) (by kernel_rfl) (fun _ _ _ h => h) (Or.inr ⟨by rfl, rfl⟩) hHeld ?_
                try simp only [Act.put, List.setIfInBounds_toArray, List.set_cons_zero, List.set_cons_succ]
                refine held_take (i := 23) (d := 94) (v := undef) rfl rfl (by kernel_rfl) (by kernel_rfl) (by kernel_rfl) (fun _ _ _ h => h) (Or.inr ⟨by rfl, rfl⟩) hHeld ?_
                try simp only [Act.put, List.setIfInBounds_toArray, List.set_cons_zero, List.set_cons_succ]
                refine held_take (i := 24) (d := 95) (v := undef) rfl rfl (by kernel_rfl) (by kernel_rfl) (by kernel_rfl) (fun _ _ _ h => h) (Or.inr ⟨by rfl, rfl⟩) hHeld ?_
                try simp only [Act.put, List.setIfInBounds_toArray, List.set_cons_zero, List.set_cons_succ]
                refine held_take (i := 25) (d := 96) (v := undef) rfl rfl (by kernel_rfl) (by kernel_rfl) (by kernel_rfl) (fun _ _ _ h => h) (Or.inr ⟨by rfl, rfl⟩) hHeld ?_
                try simp only [Act.put, List.setIfInBounds_toArray, List.set_cons_zero, List.set_cons_succ]
                refine held_take (i := 26) (d := 97) (v := ?_) rfl rfl (by kernel_rfl) (by kernel_rfl) (by kernel_rfl) (fun _ _ _ h => h) (Or.inl ⟨by rfl, ?_⟩) hHeld ?_
                rotate_left
                · (intro w hSw; (try dsimp only at hSw); go_simp; all_goals (with_reducible rfl))
                try simp only [Act.put, List.setIfInBounds_toArray, List.set_cons_zero, List.set_cons_succ]
                refine held_take (i := 27) (d := 13) (v := ?_) rfl rfl (by kernel_rfl) (by kernel_rfl) (by kernel_rfl) (fun _ _ _ h => h) (Or.inl ⟨by rfl, ?_⟩) hHeld ?_
                rotate_left
                · (intro w hSw; (try dsimp only at hSw); go_simp; all_goals (with_reducible rfl))
                try simp only [Act.put, List.setIfInBounds_toArray, List.set_cons_zero, List.set_cons_succ]
                refine wpAnyH_done (by kernel_rfl) ?_ _
                refine NoPanic.normal ?_
                have HN9 := hid_of (HVX.out.drew)
                clear x0 x1
                go_wp2
                go_roundw
                case rel => exact ⟨k + 1, by go_num, by omega, by rw [HWK]; simp, HN9⟩
                case measure => simp [intOf]; omega
              · rw [hw] at HWK
                have hll := wantK_len hw
                have hlt2 : k < L2.length := by omega
                clear hll
                obtain ⟨b2, off2, rfl, hc2x⟩ := HR2.out.at (by omega)
                obtain ⟨f0, vv, f1, va, vk, vc, rfl, hv2, -⟩ := hc2x k hlt2
                have HV2 : Hid (VRow y0 va vk (rvers L2 k)) := hv2
                have f0 := (HVX.out.cell (World.block_lt_of_cell? _ _ f0)).trans f0
                have f1 := (HVX.out.cell (World.block_lt_of_cell? _ _ f1)).trans f1
                have q2 : yx.cell? ⟨gr2, 0, none⟩ = some (.slice (some ⟨b2, off2, none⟩) L2.length rc2) := (HVX.out.cell (Array.getElem?_eq_some_iff.1 HX2.out).1).trans (cell_of_heap HX2.out rfl)
                clear hc2x hv2 hw
                by_cases hkey : (rkey L1 k).toList = (rkey L2 k).toList
                · have hkb : ((rkey L1 k).toList == (rkey L2 k).toList) = true := by simp [hkey]
                  rw [hkb] at HWK
                  refine wp_region_noPanic ?_
                  refine wp_region_held_drew (S := (fun w' => w'.cell? ⟨px, 0, none⟩ = some (.string (rkey L1 k)) ∧ w'.cell? ⟨px, 1, none⟩ = some (.slice ua uk uc) ∧ w'.cell? ⟨gr2, 0, none⟩ = some (.slice (some ⟨b2, off2, none⟩) L2.length rc2) ∧ w'.cell? ⟨b2, off2 + k * 2, none⟩ = some (.string (rkey L2 k)) ∧ w'.cell? ⟨b2, off2 + k * 2 + 1, none⟩ = some (.slice va vk vc))) (by kernel_rfl) ?_ (fun hHeld => ?_)
                  · exact ⟨x0, x1, q2, f0, f1⟩
                  refine held_take (i := 0) (d := 71) (v := ?_) rfl rfl (by kernel_rfl) (by kernel_rfl) (by kernel_rfl) (fun _ _ _ h => h) (Or.inl ⟨by rfl, ?_⟩) hHeld ?_
                  rotate_left
                  · (intro w hSw; (try dsimp only at hSw); go_simp; all_goals (with_reducible rfl))
                  try simp only [Act.put, List.setIfInBounds_toArray, List.set_cons_zero, List.set_cons_succ]
                  refine held_take (i := 1) (d := 72) (v := ?_) rfl rfl (by kernel_rfl) (by kernel_rfl) (by kernel_rfl) (fun _ _ _ h => h) (Or.inl ⟨by rfl, ?_⟩) hHeld ?_
                  rotate_left
                  · (intro w hSw; (try dsimp only at hSw); go_simp; all_goals (with_reducible rfl))
                  try simp only [Act.put, List.setIfInBounds_toArray, List.set_cons_zero, List.set_cons_succ]
                  refine held_take (i := 2) (d := 73) (v := ?_) rfl rfl (by kernel_rfl) (by kernel_rfl) (by kernel_rfl) (fun _ _ _ h => h) (Or.inl ⟨by rfl, ?_⟩) hHeld ?_
                  rotate_left
                  · (intro w hSw; (try dsimp only at hSw); go_simp; all_goals (with_reducible rfl))
                  try simp only [Act.put, List.setIfInBounds_toArray, List.set_cons_zero, List.set_cons_succ]
                  refine held_take (i := 3) (d := 74) (v := ?_) rfl rfl (by kernel_rfl) (by kernel_rfl) (by kernel_rfl) (fun _ _ _ h => h) (Or.inl ⟨by rfl, ?_⟩) hHeld ?_
                  rotate_left
                  · (intro w hSw; (try dsimp only at hSw); go_simp; all_goals (with_reducible rfl))
                  try simp only [Act.put, List.setIfInBounds_toArray, List.set_cons_zero, List.set_cons_succ]
                  refine held_take (i := 4) (d := 75) (v := ?_) rfl rfl (by kernel_rfl) (by kernel_rfl) (by kernel_rfl) (fun _ _ _ h => h) (Or.inl ⟨by rfl, ?_⟩) hHeld ?_
                  rotate_left
                  · (intro w hSw; (try dsimp only at hSw); go_simp; all_goals (with_reducible rfl))
                  try simp only [Act.put, List.setIfInBounds_toArray, List.set_cons_zero, List.set_cons_succ]
                  refine held_take (i := 5) (d := 76) (v := ?_) rfl rfl (by kernel_rfl) (by kernel_rfl) (by kernel_rfl) (fun _ _ _ h => h) (Or.inl ⟨by rfl, ?_⟩) hHeld ?_
                  rotate_left
                  · (intro w hSw; (try dsimp only at hSw); go_simp; all_goals (with_reducible rfl))
                  try simp only [Act.put, List.setIfInBounds_toArray, List.set_cons_zero, List.set_cons_succ]
                  refine held_take (i := 6) (d := 77) (v := ?_) rfl rfl (by kernel_rfl) (by kernel_rfl) (by kernel_rfl) (fun _ _ _ h => h) (Or.inl ⟨by rfl, ?_⟩) hHeld ?_
                  rotate_left
                  · (intro w hSw; (try dsimp only at hSw); go_simp; all_goals (with_reducible rfl))
                  try simp only [Act.put, List.setIfInBounds_toArray, List.set_cons_zero, List.set_cons_succ]
                  refine held_take (i := 7) (d := 78) (v := ?_) rfl rfl (by kernel_rfl) (by kernel_rfl) (by kernel_rfl) (fun _ _ _ h => h) (Or.inl ⟨by rfl, ?_⟩) hHeld ?_
                  rotate_left
                  · (intro w hSw; (try dsimp only at hSw); go_simp; all_goals (with_reducible rfl))
                  try simp only [Act.put, List.setIfInBounds_toArray, List.set_cons_zero, List.set_cons_succ]
                  refine held_take (i := 8) (d := 79) (v := ?_) rfl rfl (by kernel_rfl) (by kernel_rfl) (by kernel_rfl) (fun _ _ _ h => h) (Or.inl ⟨by rfl, ?_⟩) hHeld ?_
                  rotate_left
                  · (intro w hSw; (try dsimp only at hSw); go_simp; all_goals (with_reducible rfl))
                  try simp only [Act.put, List.setIfInBounds_toArray, List.set_cons_zero, List.set_cons_succ]
                  refine held_take (i := 9) (d := 80) (v := ?_) rfl rfl (by kernel_rfl) (by kernel_rfl) (by kernel_rfl) (fun _ _ _ h => h) (Or.inl ⟨by rfl, ?_⟩) hHeld ?_
                  rotate_left
                  · (intro w hSw; (try dsimp only at hSw); go_simp; all_goals (with_reducible rfl))
                  try simp only [Act.put, List.setIfInBounds_toArray, List.set_cons_zero, List.set_cons_succ]
                  refine held_take (i := 10) (d := 81) (v := ?_) rfl rfl (by kernel_rfl) (by kernel_rfl) (by kernel_rfl) (fun _ _ _ h => h) (Or.inl ⟨by rfl, ?_⟩) hHeld ?_
                  rotate_left
                  · (intro w hSw; (try dsimp only at hSw); go_simp; all_goals (with_reducible rfl))
                  try simp only [Act.put, List.setIfInBounds_toArray, List.set_cons_zero, List.set_cons_succ]
                  refine held_take (i := 11) (d := 82) (v := ?_) rfl rfl (by kernel_rfl) (by kernel_rfl) (by kernel_rfl) (fun _ _ _ h => h) (Or.inl ⟨by rfl, ?_⟩) hHeld ?_
                  rotate_left
                  · (intro w hSw; (try dsimp only at hSw); go_simp; all_goals (with_reducible rfl))
                  try simp only [Act.put, List.setIfInBounds_toArray, List.set_cons_zero, List.set_cons_succ]
                  refine held_take (i := 12) (d := 83) (v := ?_) rfl rfl (by kernel_rfl) (by kernel_rfl) (by kernel_rfl) (fun _ _ _ h => h) (Or.inl ⟨by rfl, ?_⟩) hHeld ?_
                  rotate_left
                  · (intro w hSw; (try dsimp only at hSw); go_simp; all_goals (with_reducible rfl))
                  try simp only [Act.put, List.setIfInBounds_toArray, List.set_cons_zero, List.set_cons_succ]
                  refine held_take (i := 13) (d := 84) (v := ?_) rfl rfl (by kernel_rfl) (by kernel_rfl) (by kernel_rfl) (fun _ _ _ h => h) (Or.inl ⟨by rfl, ?_⟩) hHeld ?_
                  rotate_left
                  · (intro w hSw; (try dsimp only at hSw); go_simp; all_goals (with_reducible rfl))
                  try simp only [Act.put, List.setIfInBounds_toArray, List.set_cons_zero, List.set_cons_succ]
                  refine held_take (i := 14) (d := 85) (v := ?_) rfl rfl (by kernel_rfl) (by kernel_rfl) (by kernel_rfl) (fun _ _ _ h => h) (Or.inl ⟨by rfl, ?_⟩) hHeld ?_
                  rotate_left
                  · (intro w hSw; (try dsimp only at hSw); go_simp; all_goals (with_reducible rfl))
                  try simp only [Act.put, List.setIfInBounds_toArray, List.set_cons_zero, List.set_cons_succ]
                  refine held_take (i := 15) (d := 86) (v := ?_) rfl rfl (by kernel_rfl) (by kernel_rfl) (by kernel_rfl) (fun _ _ _ h => h) (Or.inl ⟨by rfl, ?_⟩) hHeld ?_
                  rotate_left
                  · (intro w hSw; (try dsimp only at hSw); go_simp; all_goals (with_reducible rfl))
                  try simp only [Act.put, List.setIfInBounds_toArray, List.set_cons_zero, List.set_cons_succ]
                  refine held_take (i := 16) (d := 87) (v := ?_) rfl rfl (by kernel_rfl) (by kernel_rfl) (by kernel_rfl) (fun _ _ _ h => h) (Or.inl ⟨by rfl, ?_⟩) hHeld ?_
                  rotate_left
                  · (intro w hSw; (try dsimp only at hSw); go_simp; all_goals (with_reducible rfl))
                  try simp only [Act.put, List.setIfInBounds_toArray, List.set_cons_zero, List.set_cons_succ]
                  refine held_take (i := 17) (d := 88) (v := ?_) rfl rfl (by kernel_rfl) (by kernel_rfl) (by kernel_rfl) (fun _ _ _ h => h) (Or.inl ⟨by rfl, ?_⟩) hHeld ?_
                  rotate_left
                  · (intro w hSw; (try dsimp only at hSw); go_simp; all_goals (with_reducible rfl))
                  try simp only [Act.put, List.setIfInBounds_toArray, List.set_cons_zero, List.set_cons_succ]
                  refine held_take (i := 18) (d := 89) (v := ?_) rfl rfl (by kernel_rfl) (by kernel_rfl) (by kernel_rfl) (fun _ _ _ h => h) (Or.inl ⟨by rfl, ?_⟩) hHeld ?_
                  rotate_left
                  · (intro w hSw; (try dsimp only at hSw); go_simp; all_goals (with_reducible rfl))
                  try simp only [Act.put, List.setIfInBounds_toArray, List.set_cons_zero, List.set_cons_succ]
                  refine held_take (i := 19) (d := 90) (v := ?_) rfl rfl (by kernel_rfl) (by kernel_rfl) (by kernel_rfl) (fun _ _ _ h => h) (Or.inl ⟨by rfl, ?_⟩) hHeld ?_
                  rotate_left
                  · (intro w hSw; (try dsimp only at hSw); go_simp; all_goals (with_reducible rfl))
                  try simp only [Act.put, List.setIfInBounds_toArray, List.set_cons_zero, List.set_cons_succ]
                  refine held_take (i := 20) (d := 91) (v := ?_) rfl rfl (by kernel_rfl) (by kernel_rfl) (by kernel_rfl) (fun _ _ _ h => h) (Or.inl ⟨by rfl, ?_⟩) hHeld ?_
                  rotate_left
                  · (intro w hSw; (try dsimp only at hSw); go_simp; all_goals (with_reducible rfl))
                  try simp only [Act.put, List.setIfInBounds_toArray, List.set_cons_zero, List.set_cons_succ]
                  refine held_take (i := 21) (d := 92) (v := ?_) rfl rfl (by kernel_rfl) (by kernel_rfl) (by kernel_rfl) (fun _ _ _ h => h) (Or.inl ⟨by rfl, ?_⟩) hHeld ?_
                  rotate_left
                  · (intro w hSw; (try dsimp only at hSw); go_simp; all_goals (with_reducible rfl))
                  try simp only [Act.put, List.setIfInBounds_toArray, List.set_cons_zero, List.set_cons_succ]
                  refine held_take (i := 22) (d := 93) (v := ?_) rfl rfl (by kernel_rfl) (by kernel_rfl) (by kernel_rfl) (fun _ _ _ h => h) (Or.inl ⟨by rfl, ?_⟩) hHeld ?_
                  rotate_left
                  · (intro w hSw; (try dsimp only at hSw); go_simp; all_goals (with_reducible rfl))
                  try simp only [Act.put, List.setIfInBounds_toArray, List.set_cons_zero, List.set_cons_succ]
                  refine held_take (i := 23) (d := 94) (v := ?_) rfl rfl (by kernel_rfl) (by kernel_rfl) (by kernel_rfl) (fun _ _ _ h => h) (Or.inl ⟨by rfl, ?_⟩) hHeld ?_
                  rotate_left
                  · (intro w hSw; (try dsimp only at hSw); go_simp; all_goals (with_reducible rfl))
                  try simp only [Act.put, List.setIfInBounds_toArray, List.set_cons_zero, List.set_cons_succ]
                  refine held_take (i := 24) (d := 95) (v := ?_) rfl rfl (by kernel_rfl) (by kernel_rfl) (by kernel_rfl) (fun _ _ _ h => h) (Or.inl ⟨by rfl, ?_⟩) hHeld ?_
                  rotate_left
                  · (intro w hSw; (try dsimp only at hSw); go_simp; all_goals (with_reducible rfl))
                  try simp only [Act.put, List.setIfInBounds_toArray, List.set_cons_zero, List.set_cons_succ]
                  refine wpAnyH_ready (rs := [25]) (by kernel_rfl) (by simp) ?_
                  refine AllReadyH.cons rfl (fun K hK => ?_) AllReadyH.nil
                  go_simp
                  have q := ref_same_any ua va uk vk uc vc (rvers L1 k) (rvers L2 k) yx.drew (HV1.out.later HVX.out.drew) (HV2.out.later HVX.out.drew)
                  refine q.mono ?_
                  clear q
                  rintro e yq ⟨rfl, nq, hq⟩
                  subst yq
                  go_wp2_with fail
                  refine hK.out _ _ ?_ (fun hHeld => ?_)
                  · exact ⟨cell_drewN nq x0, cell_drewN nq x1, cell_drewN nq q2, cell_drewN nq f0, cell_drewN nq f1⟩
                  clear hK K
                  try simp only [Act.put, List.setIfInBounds_toArray, List.set_cons_zero, List.set_cons_succ]
                  refine held_take (i := 26) (d := 97) (v := ?_) rfl rfl (by kernel_rfl) (by kernel_rfl) (by kernel_rfl) (fun _ _ _ h => h) (Or.inl ⟨by rfl, ?_⟩) hHeld ?_
                  rotate_left
                  · (intro w hSw; (try dsimp only at hSw); go_simp; all_goals (with_reducible rfl))
                  try simp only [Act.put, List.setIfInBounds_toArray, List.set_cons_zero, List.set_cons_succ]
                  refine held_take (i := 27) (d := 13) (v := ?_) rfl rfl (by kernel_rfl) (by kernel_rfl) (by kernel_rfl) (fun _ _ _ h => h) (Or.inl ⟨by rfl, ?_⟩) hHeld ?_
                  rotate_left
                  · (intro w hSw; (try dsimp only at hSw); go_simp; all_goals (with_reducible rfl))
                  try simp only [Act.put, List.setIfInBounds_toArray, List.set_cons_zero, List.set_cons_succ]
                  refine wpAnyH_done (by kernel_rfl) ?_ _
                  refine NoPanic.normal ?_
                  have HN9 := hid_of (b_drewN (1 + nq) HVX.out)
                  clear x0 x1 q2 f0 f1
                  go_wp2
                  go_roundw
                  case rel => exact ⟨k + 1, by go_num, by omega, by rw [HWK]; simp, HN9⟩
                  case measure => simp [intOf]; omega
                · have hkb : ((rkey L1 k).toList == (rkey L2 k).toList) = false := by simp [hkey]
                  rw [hkb] at HWK
                  refine wp_region_noPanic ?_
                  refine wp_region_held_drew (S := (fun w' => w'.cell? ⟨px, 0, none⟩ = some (.string (rkey L1 k)) ∧ w'.cell? ⟨px, 1, none⟩ = some (.slice ua uk uc) ∧ w'.cell? ⟨gr2, 0, none⟩ = some (.slice (some ⟨b2, off2, none⟩) L2.length rc2) ∧ w'.cell? ⟨b2, off2 + k * 2, none⟩ = some (.string (rkey L2 k)) ∧ w'.cell? ⟨b2, off2 + k * 2 + 1, none⟩ = some (.slice va vk vc))) (by kernel_rfl) ?_ (fun hHeld => ?_)
                  · exact ⟨x0, x1, q2, f0, f1⟩
                  refine held_take (i := 0) (d := 71) (v := ?_) rfl rfl (by kernel_rfl) (by kernel_rfl) (by kernel_rfl) (fun _ _ _ h => h) (Or.inl ⟨by rfl, ?_⟩) hHeld ?_
                  rotate_left
                  · (intro w hSw; (try dsimp only at hSw); go_simp; all_goals (with_reducible rfl))
                  try simp only [Act.put, List.setIfInBounds_toArray, List.set_cons_zero, List.set_cons_succ]
                  refine held_take (i := 1) (d := 72) (v := ?_) rfl rfl (by kernel_rfl) (by kernel_rfl) (by kernel_rfl) (fun _ _ _ h => h) (Or.inl ⟨by rfl, ?_⟩) hHeld ?_
                  rotate_left
                  · (intro w hSw; (try dsimp only at hSw); go_simp; all_goals (with_reducible rfl))
                  try simp only [Act.put, List.setIfInBounds_toArray, List.set_cons_zero, List.set_cons_succ]
                  refine held_take (i := 2) (d := 73) (v := ?_) rfl rfl (by kernel_rfl) (by kernel_rfl) (by kernel_rfl) (fun _ _ _ h => h) (Or.inl ⟨by rfl, ?_⟩) hHeld ?_
                  rotate_left
                  · (intro w hSw; (try dsimp only at hSw); go_simp; all_goals (with_reducible rfl))
                  try simp only [Act.put, List.setIfInBounds_toArray, List.set_cons_zero, List.set_cons_succ]
                  refine held_take (i := 3) (d := 74) (v := ?_) rfl rfl (by kernel_rfl) (by kernel_rfl) (by kernel_rfl) (fun _ _ _ h => h) (Or.inl ⟨by rfl, ?_⟩) hHeld ?_
                  rotate_left
                  · (intro w hSw; (try dsimp only at hSw); go_simp; all_goals (with_reducible rfl))
                  try simp only [Act.put, List.setIfInBounds_toArray, List.set_cons_zero, List.set_cons_succ]
                  refine held_take (i := 4) (d := 75) (v := ?_) rfl rfl (by kernel_rfl) (by kernel_rfl) (by kernel_rfl) (fun _ _ _ h => h) (Or.inl ⟨by rfl, ?_⟩) hHeld ?_
                  rotate_left
                  · (intro w hSw; (try dsimp only at hSw); go_simp; all_goals (with_reducible rfl))
                  try simp only [Act.put, List.setIfInBounds_toArray, List.set_cons_zero, List.set_cons_succ]
                  refine held_take (i := 5) (d := 76) (v := ?_) rfl rfl (by kernel_rfl) (by kernel_rfl) (by kernel_rfl) (fun _ _ _ h => h) (Or.inl ⟨by rfl, ?_⟩) hHeld ?_
                  rotate_left
                  · (intro w hSw; (try dsimp only at hSw); go_simp; all_goals (with_reducible rfl))
                  try simp only [Act.put, List.setIfInBounds_toArray, List.set_cons_zero, List.set_cons_succ]
                  refine held_take (i := 6) (d := 77) (v := ?_) rfl rfl (by kernel_rfl) (by kernel_rfl) (by kernel_rfl) (fun _ _ _ h => h) (Or.inl ⟨by rfl, ?_⟩) hHeld ?_
                  rotate_left
                  · (intro w hSw; (try dsimp only at hSw); go_simp; all_goals (with_reducible rfl))
                  try simp only [Act.put, List.setIfInBounds_toArray, List.set_cons_zero, List.set_cons_succ]
                  refine held_take (i := 7) (d := 78) (v := ?_) rfl rfl (by kernel_rfl) (by kernel_rfl) (by kernel_rfl) (fun _ _ _ h => h) (Or.inl ⟨by rfl, ?_⟩) hHeld ?_
                  rotate_left
                  · (intro w hSw; (try dsimp only at hSw); go_simp; all_goals (with_reducible rfl))
                  try simp only [Act.put, List.setIfInBounds_toArray, List.set_cons_zero, List.set_cons_succ]
                  refine held_take (i := 8) (d := 79) (v := ?_) rfl rfl (by kernel_rfl) (by kernel_rfl) (by kernel_rfl) (fun _ _ _ h => h) (Or.inl ⟨by rfl, ?_⟩) hHeld ?_
                  rotate_left
                  · (intro w hSw; (try dsimp only at hSw); go_simp; all_goals (with_reducible rfl))
                  try simp only [Act.put, List.setIfInBounds_toArray, List.set_cons_zero, List.set_cons_succ]
                  refine held_take (i := 9) (d := 80) (v := ?_) rfl rfl (by kernel_rfl) (by kernel_rfl) (by kernel_rfl) (fun _ _ _ h => h) (Or.inl ⟨by rfl, ?_⟩) hHeld ?_
                  rotate_left
                  · (intro w hSw; (try dsimp only at hSw); go_simp; all_goals (with_reducible rfl))
                  try simp only [Act.put, List.setIfInBounds_toArray, List.set_cons_zero, List.set_cons_succ]
                  refine held_take (i := 10) (d := 81) (v := ?_) rfl rfl (by kernel_rfl) (by kernel_rfl) (by kernel_rfl) (fun _ _ _ h => h) (Or.inl ⟨by rfl, ?_⟩) hHeld ?_
                  rotate_left
                  · (intro w hSw; (try dsimp only at hSw); go_simp; all_goals (with_reducible rfl))
                  try simp only [Act.put, List.setIfInBounds_toArray, List.set_cons_zero, List.set_cons_succ]
                  refine held_take (i := 11) (d := 82) (v := ?_) rfl rfl (by kernel_rfl) (by kernel_rfl) (by kernel_rfl) (fun _ _ _ h => h) (Or.inl ⟨by rfl, ?_⟩) hHeld ?_
                  rotate_left
                  · (intro w hSw; (try dsimp only at hSw); go_simp; all_goals (with_reducible rfl))
                  try simp only [Act.put, List.setIfInBounds_toArray, List.set_cons_zero, List.set_cons_succ]
                  refine held_take (i := 12) (d := 83) (v := ?_) rfl rfl (by kernel_rfl) (by kernel_rfl) (by kernel_rfl) (fun _ _ _ h => h) (Or.inl ⟨by rfl, ?_⟩) hHeld ?_
                  rotate_left
                  · (intro w hSw; (try dsimp only at hSw); go_simp; all_goals (with_reducible rfl))
                  try simp only [Act.put, List.setIfInBounds_toArray, List.set_cons_zero, List.set_cons_succ]
                  refine held_take (i := 13) (d := 84) (v := ?_) rfl rfl (by kernel_rfl) (by kernel_rfl) (by kernel_rfl) (fun _ _ _ h => h) (Or.inl ⟨by rfl, ?_⟩) hHeld ?_
                  rotate_left
                  · (intro w hSw; (try dsimp only at hSw); go_simp; all_goals (with_reducible rfl))
                  try simp only [Act.put, List.setIfInBounds_toArray, List.set_cons_zero, List.set_cons_succ]
                  refine held_take (i := 14) (d := 85) (v := ?_) rfl rfl (by kernel_rfl) (by kernel_rfl) (by kernel_rfl) (fun _ _ _ h => h) (Or.inl ⟨by rfl, ?_⟩) hHeld ?_
                  rotate_left
                  · (intro w hSw; (try dsimp only at hSw); go_simp; all_goals (with_reducible rfl))
                  try simp only [Act.put, List.setIfInBounds_toArray, List.set_cons_zero, List.set_cons_succ]
                  refine held_take (i := 15) (d := 86) (v := undef) rfl rfl (by kernel_rfl) (by kernel_rfl) (by kernel_rfl) (fun _ _ _ h => h) (Or.inr ⟨by rfl, rfl⟩) hHeld ?_
                  try simp only [Act.put, List.setIfInBounds_toArray, List.set_cons_zero, List.set_cons_succ]
                  refine held_take (i := 16) (d := 87) (v := undef) rfl rfl (by kernel_rfl) (by kernel_rfl) (by kernel_rfl) (fun _ _ _ h => h) (Or.inr ⟨by rfl, rfl⟩) hHeld ?_
                  try simp only [Act.put, List.setIfInBounds_toArray, List.set_cons_zero, List.set_cons_succ]
                  refine held_take (i := 17) (d := 88) (v := undef) rfl rfl (by kernel_rfl) (by kernel_rfl) (by kernel_rfl) (fun _ _ _ h => h) (Or.inr ⟨by rfl, rfl⟩) hHeld ?_
                  try simp only [Act.put, List.setIfInBounds_toArray, List.set_cons_zero, List.set_cons_succ]
                  refine held_take (i := 18) (d := 89) (v := undef) rfl rfl (by kernel_rfl) (by kernel_rfl) (by kernel_rfl) (fun _ _ _ h => h) (Or.inr ⟨by rfl, rfl⟩) hHeld ?_
                  try simp only [Act.put, List.setIfInBounds_toArray, List.set_cons_zero, List.set_cons_succ]
                  refine held_take (i := 19) (d := 90) (v := undef) rfl rfl (by kernel_rfl) (by kernel_rfl) (by kernel_rfl) (fun _ _ _ h => h) (Or.inr ⟨by rfl, rfl⟩) hHeld ?_
                  try simp only [Act.put, List.setIfInBounds_toArray, List.set_cons_zero, List.set_cons_succ]
                  refine held_take (i := 20) (d := 91) (v := undef) rfl rfl (by kernel_rfl) (by kernel_rfl) (by kernel_rfl) (fun _ _ _ h => h) (Or.inr ⟨by rfl, rfl⟩) hHeld ?_
                  try simp only [Act.put, List.setIfInBounds_toArray, List.set_cons_zero, List.set_cons_succ]
                  refine held_take (i := 21) (d := 92) (v := undef) rfl rfl (by kernel_rfl) (by kernel_rfl) (by kernel_rfl) (fun _ _ _ h => h) (Or.inr ⟨by rfl, rfl⟩) hHeld ?_
                  try simp only [Act.put, List.setIfInBounds_toArray, List.set_cons_zero, List.set_cons_succ]
                  refine held_take (i := 22) (d := 93) (v := undef) rfl rfl (by kernel_rfl) (by kernel_rfl) (by kernel_rfl) (fun _ _ _ h => h) (Or.inr ⟨by rfl, rfl⟩) hHeld ?_
                  try simp only [Act.put, List.setIfInBounds_toArray, List.set_cons_zero, List.set_cons_succ]
                  refine held_take (i := 23) (d := 94) (v := undef) rfl rfl (by kernel_rfl) (by kernel_rfl) (by kernel_rfl) (fun _ _ _ h => h) (Or.inr ⟨by rfl, rfl⟩) hHeld ?_
                  try simp only [Act.put, List.setIfInBounds_toArray, List.set_cons_zero, List.set_cons_succ]
                  refine held_take (i := 24) (d := 95) (v := undef) rfl rfl (by kernel_rfl) (by kernel_rfl) (by kernel_rfl) (fun _ _ _ h => h) (Or.inr ⟨by rfl, rfl⟩) hHeld ?_
                  try simp only [Act.put, List.setIfInBounds_toArray, List.set_cons_zero, List.set_cons_succ]
                  refine held_take (i := 25) (d := 96) (v := undef) rfl rfl (by kernel_rfl) (by kernel_rfl) (by kernel_rfl) (fun _ _ _ h => h) (Or.inr ⟨by rfl, rfl⟩) hHeld ?_
                  try simp only [Act.put, List.setIfInBounds_toArray, List.set_cons_zero, List.set_cons_succ]
                  refine held_take (i := 26) (d := 97) (v := ?_) rfl rfl (by kernel_rfl) (by kernel_rfl) (by kernel_rfl) (fun _ _ _ h => h) (Or.inl ⟨by rfl, ?_⟩) hHeld ?_
                  rotate_left
                  · (intro w hSw; (try dsimp only at hSw); go_simp; all_goals (with_reducible rfl))
                  try simp only [Act.put, List.setIfInBounds_toArray, List.set_cons_zero, List.set_cons_succ]
                  refine held_take (i := 27) (d := 13) (v := ?_) rfl rfl (by kernel_rfl) (by kernel_rfl) (by kernel_rfl) (fun _ _ _ h => h) (Or.inl ⟨by rfl, ?_⟩) hHeld ?_
                  rotate_left
                  · (intro w hSw; (try dsimp only at hSw); go_simp; all_goals (with_reducible rfl))
                  try simp only [Act.put, List.setIfInBounds_toArray, List.set_cons_zero, List.set_cons_succ]
                  refine wpAnyH_done (by kernel_rfl) ?_ _
                  refine NoPanic.normal ?_
                  have HN9 := hid_of (HVX.out.drew)
                  clear x0 x1 q2 f0 f1
                  go_wp2
                  go_roundw
                  case rel => exact ⟨k + 1, by go_num, by omega, by rw [HWK]; simp, HN9⟩
                  case measure => simp [intOf]; omega
            · skip
              have hkl : k = L1.length := by omega
              subst hkl
              have HM : Hid (wantK L1 L2 L1.length = true ↔ ∀ s, F1 s = F2 s) := want_all HS1.out HS2.out
              have HW1 : Hid (Below w.heap.size w wr) := HW.out.trans (HV.out.mono hy0)
              have HS1w : Hid (St c1 wr g1 bm1 gr1 F1 L1) := HS1.out.later HV.out
              have HS2w : Hid (St c wr g2 bm2 gr2 F2 L2) := HS2.out.later HV.out
              clear HV HS1 HS2 HR1 HR2 HX1 HX2 HW hy0
              generalize wantK L1 L2 L1.length = want at *
              obtain ⟨n1, D1, hsp1, _⟩ := HS1w.out.sp
              obtain ⟨n2, D2, hsp2, _⟩ := HS2w.out.sp
              have HP1 : Hid (Sp wr g1 bm1 n1 D1 F1) := hsp1
              have q := ssame_any g1 bm1 n1 g2 bm2 n2 D1 D2 F1 F2 wr hsp1 hsp2
              clear hsp1 hsp2 HS1w HS2w
              go_wp2_with fail
              refine q.mono ?_
              clear q
              rintro e z1 ⟨r1, rfl, hr1, hb1⟩
              have hrw : r1 = want := by
                cases want
                · cases r1
                  · rfl
                  · exact absurd (HM.out.2 (hr1.1 rfl)) (by simp)
                · exact hr1.2 (HM.out.1 rfl)
              subst hrw
              have HP2 : Hid (Sp z1 g1 bm1 n1 D1 F1) := HP1.out.later hb1
              have HW2 : Hid (Below w.heap.size w z1) := HW1.out.trans (hb1.mono HW1.out.size)
              clear hr1 hb1 HM HP1 HW1
              have q := ssame_any g1 bm1 n1 g1 bm1 n1 D1 D1 F1 F1 z1 HP2.out HP2.out
              have hbb : (r1 == r1) = true := by simp
              go_wp2_with fail
              refine q.mono ?_
              clear q
              rintro e z2 ⟨r2, rfl, hr2, hb2⟩
              obtain rfl : r2 = true := hr2.2 (by simp)
              have HW3 : Hid (Below w.heap.size w z2) := HW2.out.trans (hb2.mono HW2.out.size)
              clear hr2 hb2 HP2 HW2
              go_wp2_with fail
              refine (new_any z2).mono ?_
              rintro e z3 ⟨g3, bm3, rfl, hs3, hb3, -, -⟩
              have HW4 : Hid (Below w.heap.size w z3) := HW3.out.trans (hb3.mono HW3.out.size)
              have q := ssame_nil g3 bm3 0 _ _ z3 hs3 rfl
              clear hs3 hb3 HW3
              go_wp2_with fail
              refine q.mono ?_
              clear q
              rintro e z4 ⟨rfl, hb4⟩
              have HW5 : Hid (Below w.heap.size w z4) := HW4.out.trans (hb4.mono HW4.out.size)
              clear hb4 HW4
              go_wp2_with fail
              refine (awake10_any z4).mono ?_
              rintro e z5 ⟨rfl, hb5⟩
              have HW6 : Hid (Below w.heap.size w z5) := HW5.out.trans (hb5.mono HW5.out.size)
              clear hb5 HW5
              go_wp2
              go_ret
              exact ⟨by simp, HW6.out⟩

/-! From the call to the statement. -/
set_option maxRecDepth 100000 in
theorem lifted (os : Os) (started : os.Started) (H : Type) (enc : TypeId × Value → H) :
    ReturnsInHanded {} Try.checked os 9 .any (Rows.spaceSameSpec.pre6 enc Try.prog Try.f9 Rows.spaceSameRow.domain false) (Rows.spaceSameSpec.post enc Try.prog Try.f9 false true false false) := by
  refine returnsInHanded_of_change (C := Try.checked) own started (by kernel_rfl) Try.func9
    (ChangeSpec.witness6 (enc := enc) (C := Try.checked) false ⟨#[], #[.slice none 0 0, .slice none 0 0], []⟩ 8 (by kernel_rfl) (by kernel_rfl) (by kernel_rfl) (by kernel_rfl)) ?_
  intro W base args ds gs before hval0 hW hcnd _
  have hval : ∀ (j : Nat) t v, Try.f9.params[j]? = some t → args[j]? = some v → Value.okWide Try.prog W .any base t v := hval0
  have hW' := hW
  obtain ⟨p, q, hA0, hV, rfl, hfz, hnd⟩ := hW
  have hA : DataW.TrodAll enc Try.prog W 0 (fun _ => true) true Try.f9.params.toList args.toList ds p := hA0
  rw [Try.params9] at hA hval
  obtain ⟨v0, vs0, d0, ds0, p0, q0, hargs, rfl, rfl, h0, r0⟩ := trodAll_cons hA
  obtain ⟨v1, vs1, d1, ds1, p1, q1, rfl, rfl, rfl, h1, r1⟩ := trodAll_cons r0
  obtain ⟨rfl, rfl, rfl⟩ := trodAll_nil r1
  obtain rfl : args = #[v0, v1] := by cases args; simp_all
  obtain ⟨rfl, rfl⟩ := trodVars_none hV
  obtain ⟨a0, len0, cap0, rfl⟩ := okWide_slice Try.underlying53 (hval 0 53 v0 rfl rfl)
  have k0 := h0
  have lt0 : ∀ x ∈ p0, x.block < W.heap.size := by obtain ⟨m, hm⟩ := k0; exact DataW.trod_lt m _ _ _ hm
  obtain ⟨O0, w0⟩ := open_sops h0
  obtain ⟨a1, len1, cap1, rfl⟩ := okWide_slice Try.underlying53 (hval 1 53 v1 rfl rfl)
  have k1 := h1
  have lt1 : ∀ x ∈ p1, x.block < W.heap.size := by obtain ⟨m, hm⟩ := k1; exact DataW.trod_lt m _ _ _ hm
  obtain ⟨O1, w1⟩ := open_sops h1
  clear hA0 hval0
  refine (walk a0 len0 cap0 O0 a1 len1 cap1 O1 W w0 w1).mono fun e W' ⟨he, bel⟩ => ?_
  subst he
  exact ⟨_, rfl, _, _, _, [], _, [], hW', trodAll_mk1 (shut_bool Try.underlying4 _), (trodAll_cons_mk (Below.trod laidOut (by kernel_rfl) (of_decide_eq_true (by kernel_rfl)) k0 bel lt0) (trodAll_cons_mk (Below.trod laidOut (by kernel_rfl) (of_decide_eq_true (by kernel_rfl)) k1 bel lt1) trodAll_mk0)), rfl, bel.frame _, fun h => by cases h⟩

theorem over : Rows.spaceSameRow.holds Try.pinned (OpenSpec.ofChange Rows.spaceSameSpec) :=
  OpenClaim.holds_of_wide 9 Try.f9 rfl rfl rfl rfl rfl rfl rfl ⟨rfl, rfl, rfl, rfl, rfl⟩ rfl rfl rfl rfl rfl (by kernel_rfl) Try.func9 (by kernel_rfl)
    (of_decide_eq_true (by kernel_rfl)) (by unfold Func.isWrapper; first | (rw [if_pos (by decide +kernel)]; kernel_rfl) | (rw [if_neg (by decide +kernel)]; exact ⟨rfl, rfl⟩))
    (fun os started H enc _ => lifted os started H enc)
end Go.Proofs.Ytmahigfamgbhfaa.spaceSame
namespace Go.Proofs.Ytmahigfamgbhfaa
theorem spaceSame_holds : Rows.SpaceSameSaid := spaceSame.over
#print axioms spaceSame_holds
end Go.Proofs.Ytmahigfamgbhfaa
