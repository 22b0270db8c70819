/-
  Three logs that take pieces from one another only where they fit stay matched: sautoirlaw15.LinksMatch returns true at every row of moves; no condition.
-/
import Derived.Test.YtlefaicdcomkjaaRows
import Derived.Test.YtlefaicdcomkjaaLiT
import Derived.WalkKit
import Derived.ProofKit
import Derived.OpenShut
import Derived.ShutString
import Derived.ChangeOld
import Derived.Below
namespace Go.Proofs.Ytlefaicdcomkjaa.linksMatch
open Go.ChangeShapes Go.WideShapes Go.ChangeAt Go.RowKit
open Go.ChangeMaps (open_string shut_string)
set_option linter.unusedSimpArgs false
set_option linter.unusedVariables false

theorem own : ownKnob Try.prog.godebug = none := by kernel_rfl
theorem laidOut : laidOutB Try.prog = true := by kernel_rfl

/-! The law returns true, and writes nothing that was there. -/
set_option maxRecDepth 100000 in
set_option maxHeartbeats 40000000 in
theorem walk (a0 : Option Addr) (len0 cap0 : Nat) (O0 : Nat → Mv) (w : World) (w0 : Mvs w a0 len0 O0) :
    Calls Try.prog 5 #[.slice a0 len0 cap0] w fun e w' => e = .returned (.bool true) ∧ Below w.heap.size w w' := by
  have HZ : Hid (Mvs w a0 len0 O0) := w0
  have hln : len0 ≤ maxLen := w0.1
  unfold maxLen at hln
  clear w0
  generalize hp : w.heap.size = p at *
  have HP : Hid (w.heap.size = p) := hp
  clear hp
  go_enter Try.func5, Try.ntmps5
  go_wp2_with fail
  refine (new_any w).mono ?_
  rintro e v1 ⟨rfl, hl1, hb1⟩
  have e1 := hl1.lt
  go_wp2_with fail
  refine (new_any v1).mono ?_
  rintro e v2 ⟨rfl, hl2, hb2⟩
  have e2 := hl2.lt
  have hl1 := hl1.later hb2
  go_wp2_with fail
  refine (new_any v2).mono ?_
  rintro e v3 ⟨rfl, hl3, hb3⟩
  have e3 := hl3.lt
  have hl1 := hl1.later hb3
  have hl2 := hl2.later hb3
  have hb4 : Below v3.heap.size v3 (v3.alloc (.cells #[.pointer (some ⟨w.heap.size, 0, none⟩), .pointer (some ⟨v1.heap.size, 0, none⟩), .pointer (some ⟨v2.heap.size, 0, none⟩)] 23)) := (Below.refl _ _).alloc (Nat.le_refl _) _
  have hn := heap_alloc_new v3 (.cells #[.pointer (some ⟨w.heap.size, 0, none⟩), .pointer (some ⟨v1.heap.size, 0, none⟩), .pointer (some ⟨v2.heap.size, 0, none⟩)] 23)
  have hpp := HP.out
  have HT : Hid (∃ G, Three (v3.alloc (.cells #[.pointer (some ⟨w.heap.size, 0, none⟩), .pointer (some ⟨v1.heap.size, 0, none⟩), .pointer (some ⟨v2.heap.size, 0, none⟩)] 23)) p v3.heap.size G (fun _ => none) (fun _ => [])) := by
    refine ⟨fun x => if x = 0 then w.heap.size else if x = 1 then v1.heap.size else v2.heap.size, ⟨fun x hx => ?_, tagOf_heap hn, fun x hx => ?_, fun x y hx hy hxy => ⟨?_, fun k hk => by cases hk⟩, ?_, fun x hx => ?_, fun x k hx hk => by cases hk⟩⟩
    · rcases (show x = 0 ∨ x = 1 ∨ x = 2 by omega) with rfl | rfl | rfl
      all_goals exact cell_of_heap hn rfl
    · rcases (show x = 0 ∨ x = 1 ∨ x = 2 by omega) with rfl | rfl | rfl
      · exact hl1.later hb4
      · exact hl2.later hb4
      · exact hl3.later hb4
    · rcases (show x = 0 ∨ x = 1 ∨ x = 2 by omega) with rfl | rfl | rfl <;> rcases (show y = 0 ∨ y = 1 ∨ y = 2 by omega) with rfl | rfl | rfl
      all_goals first | exact absurd rfl hxy | (simp only [if_true, if_false]; simp; omega)
    · omega
    · rcases (show x = 0 ∨ x = 1 ∨ x = 2 by omega) with rfl | rfl | rfl
      all_goals (simp; omega)
  have HB : Hid (Below p w (v3.alloc (.cells #[.pointer (some ⟨w.heap.size, 0, none⟩), .pointer (some ⟨v1.heap.size, 0, none⟩), .pointer (some ⟨v2.heap.size, 0, none⟩)] 23))) := ((hb1.mono (by omega)).trans ((hb2.mono (by omega)).trans ((hb3.mono (by omega)).trans (hb4.mono (by omega)))))
  clear hl1 hl2 hl3 e1 e2 e3 hb1 hb2 hb3 hb4 hn hpp
  go_upto_region 2 with fail
  generalize v3.alloc (.cells #[.pointer (some ⟨w.heap.size, 0, none⟩), .pointer (some ⟨v1.heap.size, 0, none⟩), .pointer (some ⟨v2.heap.size, 0, none⟩)] 23) = v4 at *
  generalize v3.heap.size = sb at *
  obtain ⟨G, hT⟩ := HT.out
  have HT0 : Hid (Three v4 p sb G (fun _ => none) (fun _ => [])) := hT
  clear HT hT
  go_wp2
  go_loopw [4, 5, 6, 20] (fun ldv epv sqv t wr => ∃ (k ld : Nat) (ep sq : Int), t = .int .i64 (k : Nat) ∧ k ≤ len0 ∧ k ≤ 40 ∧ ldv = .int .i64 (ld : Nat) ∧ ld < 3 ∧ epv = .int .u64 ep ∧ 1 ≤ ep ∧ ep ≤ k + 1 ∧ sqv = .int .u64 sq ∧ 0 ≤ sq ∧ sq ≤ k ∧ Hid (∃ B X, Three wr p sb G B X ∧ Inv ep ld X ∧ ∀ x, (X x).length ≤ k) ∧ Hid (Below p w wr)) (fun _ _ _ t _ => len0 - (intOf t).toNat)
  case atStart => exact ⟨0, 0, 1, 0, rfl, by omega, by omega, rfl, by omega, rfl, by omega, by omega, rfl, by omega, by omega, ⟨_, _, HT0.out, Inv.none, fun x => by simp⟩, HB.out⟩
  case round =>
    obtain ⟨k, ld, ep, sq, rfl, hk, hk40, rfl, hld, rfl, hep1, hep2, rfl, hsq1, hsq2, HR, HW⟩ := hrel
    clear HT0 HB
    obtain ⟨B, X, hT, hI, hX⟩ := HR.out
    have HT : Hid (Three wr p sb G B X) := hT
    have HI : Hid (Inv ep ld X) := hI
    have HX : Hid (∀ x, (X x).length ≤ k) := hX
    clear HR hT hI hX
    by_cases hgo : k < len0 ∧ k < 40
    · obtain ⟨b, off, rfl, hc⟩ := HZ.out.at (by omega)
      have hlt := hgo.1
      have h40 := hgo.2
      have hmv := hc k hgo.1
      clear hc
      generalize O0 k = mv at hmv
      obtain ⟨kd, ma, mb, mp, mm⟩ := mv
      obtain ⟨d0, d1, d2, d3, d4⟩ := hmv
      simp only at d0 d1 d2 d3 d4
      have d0 := (HW.out.cell (by have := World.block_lt_of_cell? _ _ d0; rw [← HP.out]; exact this)).trans d0
      have d1 := (HW.out.cell (by have := World.block_lt_of_cell? _ _ d1; rw [← HP.out]; exact this)).trans d1
      have d2 := (HW.out.cell (by have := World.block_lt_of_cell? _ _ d2; rw [← HP.out]; exact this)).trans d2
      have d3 := (HW.out.cell (by have := World.block_lt_of_cell? _ _ d3; rw [← HP.out]; exact this)).trans d3
      have d4 := (HW.out.cell (by have := World.block_lt_of_cell? _ _ d4; rw [← HP.out]; exact this)).trans d4
      have bx : Below wr.heap.size wr (wr.alloc (.cells #[.int .i64 kd, .int .i64 ma, .int .i64 mb, .int .i64 mp, .int .i64 mm] 68)) := (Below.refl _ _).alloc (Nat.le_refl _) _
      have HTX : Hid (Three (wr.alloc (.cells #[.int .i64 kd, .int .i64 ma, .int .i64 mb, .int .i64 mp, .int .i64 mm] 68)) p sb G B X) := HT.out.later bx
      have HWX : Hid (Below p w (wr.alloc (.cells #[.int .i64 kd, .int .i64 ma, .int .i64 mb, .int .i64 mp, .int .i64 mm] 68))) := HW.out.alloc HT.out.lt _
      have hxn := heap_alloc_new wr (.cells #[.int .i64 kd, .int .i64 ma, .int .i64 mb, .int .i64 mp, .int .i64 mm] 68)
      clear bx HT HW
      go_upto_region 7 with fail
      clear d0 d1 d2 d3 d4 hgo
      generalize hw1 : wr.alloc (.cells #[.int .i64 kd, .int .i64 ma, .int .i64 mb, .int .i64 mp, .int .i64 mm] 68) = y1 at *
      clear hw1
      generalize wr.heap.size = px at *
      have m0 : y1.cell? ⟨px, 0, none⟩ = some (.int .i64 kd) := cell_of_heap hxn rfl
      have m1 : y1.cell? ⟨px, 1, none⟩ = some (.int .i64 ma) := cell_of_heap hxn rfl
      have m2 : y1.cell? ⟨px, 2, none⟩ = some (.int .i64 mb) := cell_of_heap hxn rfl
      have HMV : Hid (y1.heap[px]? = some (.cells #[.int .i64 kd, .int .i64 ma, .int .i64 mb, .int .i64 mp, .int .i64 mm] 68)) := hxn
      clear hxn
      obtain ⟨a, haI⟩ : ∃ a : Nat, modI ma 3 = (a : Nat) := ⟨(modI ma 3).toNat, by have := modI_in ma 3 (by omega); omega⟩
      obtain ⟨bb, hbI⟩ : ∃ a : Nat, modI mb 3 = (a : Nat) := ⟨(modI mb 3).toNat, by have := modI_in mb 3 (by omega); omega⟩
      have ha3 : a < 3 := by have := modI_in ma 3 (by omega); omega
      have hb3 : bb < 3 := by have := modI_in mb 3 (by omega); omega
      have HQA : Hid (∀ w, Calls Try.prog 25 #[.int .i64 ma, .int .i64 3] w fun e w' => e = .returned (.int .i64 (a : Nat)) ∧ w' = w) := fun w => by rw [← haI]; exact mod_any ma 3 w (by omega) (by omega)
      have HQB : Hid (∀ w, Calls Try.prog 25 #[.int .i64 mb, .int .i64 3] w fun e w' => e = .returned (.int .i64 (bb : Nat)) ∧ w' = w) := fun w => by rw [← hbI]; exact mod_any mb 3 w (by omega) (by omega)
      have s1 := HTX.out.cells a ha3
      have s2 := HTX.out.cells bb hb3
      clear haI hbI
      have ia : (0 : Int) ≤ (a : Int) := by omega
      have ib : (0 : Int) ≤ (bb : Int) := by omega
      have ja : ((a : Nat) : Int) < 3 := by omega
      have jb : ((bb : Nat) : Int) < 3 := by omega
      go_quiet (first | with_reducible exact Calls.quiet_of_same (HQA.out _) | with_reducible exact Calls.quiet_of_same (HQB.out _))
      clear m1 m2 s1 s2
      go_upto_region 9 with fail
      have HT2 : Hid (Three (y1.drewN nq) p sb G B X) := HTX.out.later (below_drewN (Below.refl _ _) nq)
      have HW2 : Hid (Below p w (y1.drewN nq)) := below_drewN HWX.out nq
      have HM2 : Hid ((y1.drewN nq).heap[px]? = some (.cells #[.int .i64 kd, .int .i64 ma, .int .i64 mb, .int .i64 mp, .int .i64 mm] 68)) := HMV.out
      clear HTX HWX HMV m0
      generalize y1.drewN nq = y2 at *
      by_cases k0 : kd = 0
      · subst k0
        have s3 := HT2.out.cells ld hld
        have il : (0 : Int) ≤ (ld : Int) := by omega
        have jl : ((ld : Nat) : Int) < 3 := by omega
        have hq := addF_any (G ld) (B ld) (X ld) ep (sq + 1) _ y2 (HT2.out.lg ld hld) (by have := HX.out ld; omega) hep1 (by omega) rfl (ep_last HI.out hep1 ld _)
        have HQ : Hid (Calls _ _ _ _ _) := hq
        clear hq
        go_wp2_with fail
        refine HQ.out.mono ?_
        clear HQ s3
        rintro e y3 ⟨rfl, ob3, hl3, hk3, ho3⟩
        obtain ⟨Bf, hT3, hb3⟩ := HT2.out.set hld hl3 hk3 ho3
        obtain ⟨Xf, hXf⟩ : ∃ Xf, Xf = upd X ld (X ld ++ [(ep, sq + 1)]) := ⟨_, rfl⟩
        rw [← hXf] at hT3
        have HTf : Hid (Three y3 p sb G Bf Xf) := hT3
        have HWf : Hid (Below p w y3) := HW2.out.trans hb3
        have HIf : Hid (Inv ep ld Xf) := by rw [hXf]; exact HI.out.add hep1 (sq + 1) (by omega)
        have HXf : Hid (∀ x, (Xf x).length ≤ k + 1) := fun x => by
          rw [hXf]
          unfold upd
          split
          · rw [List.length_append]; have := HX.out ld; simp only [List.length_cons, List.length_nil]; omega
          · have := HX.out x; omega
        clear hl3 hk3 ho3 hT3 hb3 hXf HT2 HW2 HI HX HM2
        go_wp2
        go_loopw [12] (fun xv wx => ∃ x : Nat, xv = .int .i64 (x : Nat) ∧ x ≤ 3 ∧ Hid (Three wx p sb G Bf Xf) ∧ Hid (Below p w wx)) (fun xv _ => 3 - (intOf xv).toNat)
        case atStart => exact ⟨0, rfl, by omega, HTf, HWf⟩
        case round =>
          obtain ⟨x, rfl, hx, HTx, HWx⟩ := hrel
          by_cases hx3 : x < 3
          · have jx : ((x : Nat) : Int) < 3 := by omega
            go_wp2
            go_loopw [13] (fun yv wy => ∃ y : Nat, yv = .int .i64 (y : Nat) ∧ y ≤ x ∧ Hid (Three wy p sb G Bf Xf) ∧ Hid (Below p w wy)) (fun yv _ => x - (intOf yv).toNat)
            case atStart => exact ⟨0, rfl, by omega, HTx, HWx⟩
            case round =>
              obtain ⟨y, rfl, hy, HTy, HWy⟩ := hrel
              by_cases hyx : y < x
              · have jyx : ((y : Nat) : Int) < (x : Nat) := by omega
                have jy : ((y : Nat) : Int) < 3 := by omega
                have ix : (0 : Int) ≤ (x : Int) := by omega
                have iy : (0 : Int) ≤ (y : Int) := by omega
                have hmt := matched_any (G x) (G y) (Bf x) (Bf y) (Xf x) (Xf y) wr.drew ((HTy.out.lg x hx3).later (Below.refl _ _).drew) ((HTy.out.lg y (by omega)).later (Below.refl _ _).drew) (HIf.out.mat x y) (by have := HXf.out x; omega) (by have := HXf.out y; omega)
                have HMT : Hid (Calls Try.prog 29 #[.pointer (some ⟨G x, 0, none⟩), .pointer (some ⟨G y, 0, none⟩)] wr.drew fun e w' => e = .returned (.bool true) ∧ Below wr.drew.heap.size wr.drew w') := hmt
                clear hmt
                go_upto_region 28 with fail
                refine wp_region_noPanic ?_
                refine wp_region_held_drew (S := (fun w' => w'.cell? ⟨sb, x, none⟩ = some (.pointer (some ⟨G x, 0, none⟩)) ∧ w'.cell? ⟨sb, y, none⟩ = some (.pointer (some ⟨G y, 0, none⟩)))) (by kernel_rfl) ?_ (fun hHeld => ?_)
                · exact ⟨HTy.out.cells x hx3, HTy.out.cells y (by omega)⟩
                refine held_take (i := 0) (d := 99) (v := ?_) rfl rfl (by kernel_rfl) (by kernel_rfl) (by kernel_rfl) (fun _ _ _ h => h) (Or.inl ⟨by rfl, ?_⟩) hHeld ?_
                rotate_left
                · (intro w hSw; (try dsimp only at hSw); go_simp; all_goals (with_reducible rfl))
                try simp only [Act.put, List.setIfInBounds_toArray, List.set_cons_zero, List.set_cons_succ]
                refine held_take (i := 1) (d := 100) (v := ?_) rfl rfl (by kernel_rfl) (by kernel_rfl) (by kernel_rfl) (fun _ _ _ h => h) (Or.inl ⟨by rfl, ?_⟩) hHeld ?_
                rotate_left
                · (intro w hSw; (try dsimp only at hSw); go_simp; all_goals (with_reducible rfl))
                try simp only [Act.put, List.setIfInBounds_toArray, List.set_cons_zero, List.set_cons_succ]
                refine held_take (i := 2) (d := 101) (v := ?_) rfl rfl (by kernel_rfl) (by kernel_rfl) (by kernel_rfl) (fun _ _ _ h => h) (Or.inl ⟨by rfl, ?_⟩) hHeld ?_
                rotate_left
                · (intro w hSw; (try dsimp only at hSw); go_simp; all_goals (with_reducible rfl))
                try simp only [Act.put, List.setIfInBounds_toArray, List.set_cons_zero, List.set_cons_succ]
                refine held_take (i := 3) (d := 102) (v := ?_) rfl rfl (by kernel_rfl) (by kernel_rfl) (by kernel_rfl) (fun _ _ _ h => h) (Or.inl ⟨by rfl, ?_⟩) hHeld ?_
                rotate_left
                · (intro w hSw; (try dsimp only at hSw); go_simp; all_goals (with_reducible rfl))
                try simp only [Act.put, List.setIfInBounds_toArray, List.set_cons_zero, List.set_cons_succ]
                refine held_take (i := 4) (d := 103) (v := ?_) rfl rfl (by kernel_rfl) (by kernel_rfl) (by kernel_rfl) (fun _ _ _ h => h) (Or.inl ⟨by rfl, ?_⟩) hHeld ?_
                rotate_left
                · (intro w hSw; (try dsimp only at hSw); go_simp; all_goals (with_reducible rfl))
                try simp only [Act.put, List.setIfInBounds_toArray, List.set_cons_zero, List.set_cons_succ]
                refine held_take (i := 5) (d := 104) (v := ?_) rfl rfl (by kernel_rfl) (by kernel_rfl) (by kernel_rfl) (fun _ _ _ h => h) (Or.inl ⟨by rfl, ?_⟩) hHeld ?_
                rotate_left
                · (intro w hSw; (try dsimp only at hSw); go_simp; all_goals (with_reducible rfl))
                try simp only [Act.put, List.setIfInBounds_toArray, List.set_cons_zero, List.set_cons_succ]
                refine held_take (i := 6) (d := 105) (v := ?_) rfl rfl (by kernel_rfl) (by kernel_rfl) (by kernel_rfl) (fun _ _ _ h => h) (Or.inl ⟨by rfl, ?_⟩) hHeld ?_
                rotate_left
                · (intro w hSw; (try dsimp only at hSw); go_simp; all_goals (with_reducible rfl))
                try simp only [Act.put, List.setIfInBounds_toArray, List.set_cons_zero, List.set_cons_succ]
                refine held_take (i := 7) (d := 106) (v := ?_) rfl rfl (by kernel_rfl) (by kernel_rfl) (by kernel_rfl) (fun _ _ _ h => h) (Or.inl ⟨by rfl, ?_⟩) hHeld ?_
                rotate_left
                · (intro w hSw; (try dsimp only at hSw); go_simp; all_goals (with_reducible rfl))
                try simp only [Act.put, List.setIfInBounds_toArray, List.set_cons_zero, List.set_cons_succ]
                refine wpAnyH_ready (rs := [8]) (by kernel_rfl) (by simp) ?_
                refine AllReadyH.cons rfl (fun K hK => ?_) AllReadyH.nil
                go_simp
                refine HMT.out.mono ?_
                rintro e wz ⟨rfl, hbz⟩
                have HTz : Hid (Three wz p sb G Bf Xf) := (HTy.out.later (Below.refl _ _).drew).later hbz
                have HWz : Hid (Below p w wz) := HWy.out.drew.trans (hbz.mono (by simp only [World.size_drew]; exact HTy.out.lt))
                clear hbz HMT
                go_wp2_with fail
                refine hK.out _ _ ?_ (fun hHeld => ?_)
                · exact ⟨HTz.out.cells x hx3, HTz.out.cells y (by omega)⟩
                clear hK K
                try simp only [Act.put, List.setIfInBounds_toArray, List.set_cons_zero, List.set_cons_succ]
                refine held_take (i := 9) (d := 108) (v := ?_) rfl rfl (by kernel_rfl) (by kernel_rfl) (by kernel_rfl) (fun _ _ _ h => h) (Or.inl ⟨by rfl, ?_⟩) hHeld ?_
                rotate_left
                · (intro w hSw; (try dsimp only at hSw); go_simp; all_goals (with_reducible rfl))
                try simp only [Act.put, List.setIfInBounds_toArray, List.set_cons_zero, List.set_cons_succ]
                refine wpAnyH_done (by kernel_rfl) ?_ _
                refine NoPanic.normal ?_
                go_wp2
                go_roundw
                case rel => exact ⟨y + 1, by go_num, by omega, HTz, HWz⟩
                case measure => simp [intOf]; omega
              · go_wp2
                go_roundw
                case rel => exact ⟨x + 1, by go_num, by omega, HTy, HWy⟩
                case measure => simp [intOf]; omega
          · go_wp2
            go_roundw
            case rel => exact ⟨k + 1, ld, ep, (sq + 1), by go_num, by omega, by omega, by first | rfl | go_num, by omega, by first | rfl | go_num, by omega, by omega, by first | rfl | go_num, by omega, by omega, ⟨Bf, Xf, HTx.out, HIf.out, HXf.out⟩, HWx⟩
            case measure => simp [intOf]; omega
      by_cases k1 : kd = 1
      · subst k1
        have s3 := HT2.out.cells ld hld
        have il : (0 : Int) ≤ (ld : Int) := by omega
        have jl : ((ld : Nat) : Int) < 3 := by omega
        have hq := addF_any (G ld) (B ld) (X ld) ep (sq + 1) _ y2 (HT2.out.lg ld hld) (by have := HX.out ld; omega) hep1 (by omega) rfl (ep_last HI.out hep1 ld _)
        have HQ : Hid (Calls _ _ _ _ _) := hq
        clear hq
        go_wp2_with fail
        refine HQ.out.mono ?_
        clear HQ s3
        rintro e y3 ⟨rfl, ob3, hl3, hk3, ho3⟩
        obtain ⟨Bf, hT3, hb3⟩ := HT2.out.set hld hl3 hk3 ho3
        obtain ⟨Xf, hXf⟩ : ∃ Xf, Xf = upd X ld (X ld ++ [(ep, sq + 1)]) := ⟨_, rfl⟩
        rw [← hXf] at hT3
        have HTf : Hid (Three y3 p sb G Bf Xf) := hT3
        have HWf : Hid (Below p w y3) := HW2.out.trans hb3
        have HIf : Hid (Inv ep ld Xf) := by rw [hXf]; exact HI.out.add hep1 (sq + 1) (by omega)
        have HXf : Hid (∀ x, (Xf x).length ≤ k + 1) := fun x => by
          rw [hXf]
          unfold upd
          split
          · rw [List.length_append]; have := HX.out ld; simp only [List.length_cons, List.length_nil]; omega
          · have := HX.out x; omega
        clear hl3 hk3 ho3 hT3 hb3 hXf HT2 HW2 HI HX HM2
        go_wp2
        go_loopw [12] (fun xv wx => ∃ x : Nat, xv = .int .i64 (x : Nat) ∧ x ≤ 3 ∧ Hid (Three wx p sb G Bf Xf) ∧ Hid (Below p w wx)) (fun xv _ => 3 - (intOf xv).toNat)
        case atStart => exact ⟨0, rfl, by omega, HTf, HWf⟩
        case round =>
          obtain ⟨x, rfl, hx, HTx, HWx⟩ := hrel
          by_cases hx3 : x < 3
          · have jx : ((x : Nat) : Int) < 3 := by omega
            go_wp2
            go_loopw [13] (fun yv wy => ∃ y : Nat, yv = .int .i64 (y : Nat) ∧ y ≤ x ∧ Hid (Three wy p sb G Bf Xf) ∧ Hid (Below p w wy)) (fun yv _ => x - (intOf yv).toNat)
            case atStart => exact ⟨0, rfl, by omega, HTx, HWx⟩
            case round =>
              obtain ⟨y, rfl, hy, HTy, HWy⟩ := hrel
              by_cases hyx : y < x
              · have jyx : ((y : Nat) : Int) < (x : Nat) := by omega
                have jy : ((y : Nat) : Int) < 3 := by omega
                have ix : (0 : Int) ≤ (x : Int) := by omega
                have iy : (0 : Int) ≤ (y : Int) := by omega
                have hmt := matched_any (G x) (G y) (Bf x) (Bf y) (Xf x) (Xf y) wr.drew ((HTy.out.lg x hx3).later (Below.refl _ _).drew) ((HTy.out.lg y (by omega)).later (Below.refl _ _).drew) (HIf.out.mat x y) (by have := HXf.out x; omega) (by have := HXf.out y; omega)
                have HMT : Hid (Calls Try.prog 29 #[.pointer (some ⟨G x, 0, none⟩), .pointer (some ⟨G y, 0, none⟩)] wr.drew fun e w' => e = .returned (.bool true) ∧ Below wr.drew.heap.size wr.drew w') := hmt
                clear hmt
                go_upto_region 28 with fail
                refine wp_region_noPanic ?_
                refine wp_region_held_drew (S := (fun w' => w'.cell? ⟨sb, x, none⟩ = some (.pointer (some ⟨G x, 0, none⟩)) ∧ w'.cell? ⟨sb, y, none⟩ = some (.pointer (some ⟨G y, 0, none⟩)))) (by kernel_rfl) ?_ (fun hHeld => ?_)
                · exact ⟨HTy.out.cells x hx3, HTy.out.cells y (by omega)⟩
                refine held_take (i := 0) (d := 99) (v := ?_) rfl rfl (by kernel_rfl) (by kernel_rfl) (by kernel_rfl) (fun _ _ _ h => h) (Or.inl ⟨by rfl, ?_⟩) hHeld ?_
                rotate_left
                · (intro w hSw; (try dsimp only at hSw); go_simp; all_goals (with_reducible rfl))
                try simp only [Act.put, List.setIfInBounds_toArray, List.set_cons_zero, List.set_cons_succ]
                refine held_take (i := 1) (d := 100) (v := ?_) rfl rfl (by kernel_rfl) (by kernel_rfl) (by kernel_rfl) (fun _ _ _ h => h) (Or.inl ⟨by rfl, ?_⟩) hHeld ?_
                rotate_left
                · (intro w hSw; (try dsimp only at hSw); go_simp; all_goals (with_reducible rfl))
                try simp only [Act.put, List.setIfInBounds_toArray, List.set_cons_zero, List.set_cons_succ]
                refine held_take (i := 2) (d := 101) (v := ?_) rfl rfl (by kernel_rfl) (by kernel_rfl) (by kernel_rfl) (fun _ _ _ h => h) (Or.inl ⟨by rfl, ?_⟩) hHeld ?_
                rotate_left
                · (intro w hSw; (try dsimp only at hSw); go_simp; all_goals (with_reducible rfl))
                try simp only [Act.put, List.setIfInBounds_toArray, List.set_cons_zero, List.set_cons_succ]
                refine held_take (i := 3) (d := 102) (v := ?_) rfl rfl (by kernel_rfl) (by kernel_rfl) (by kernel_rfl) (fun _ _ _ h => h) (Or.inl ⟨by rfl, ?_⟩) hHeld ?_
                rotate_left
                · (intro w hSw; (try dsimp only at hSw); go_simp; all_goals (with_reducible rfl))
                try simp only [Act.put, List.setIfInBounds_toArray, List.set_cons_zero, List.set_cons_succ]
                refine held_take (i := 4) (d := 103) (v := ?_) rfl rfl (by kernel_rfl) (by kernel_rfl) (by kernel_rfl) (fun _ _ _ h => h) (Or.inl ⟨by rfl, ?_⟩) hHeld ?_
                rotate_left
                · (intro w hSw; (try dsimp only at hSw); go_simp; all_goals (with_reducible rfl))
                try simp only [Act.put, List.setIfInBounds_toArray, List.set_cons_zero, List.set_cons_succ]
                refine held_take (i := 5) (d := 104) (v := ?_) rfl rfl (by kernel_rfl) (by kernel_rfl) (by kernel_rfl) (fun _ _ _ h => h) (Or.inl ⟨by rfl, ?_⟩) hHeld ?_
                rotate_left
                · (intro w hSw; (try dsimp only at hSw); go_simp; all_goals (with_reducible rfl))
                try simp only [Act.put, List.setIfInBounds_toArray, List.set_cons_zero, List.set_cons_succ]
                refine held_take (i := 6) (d := 105) (v := ?_) rfl rfl (by kernel_rfl) (by kernel_rfl) (by kernel_rfl) (fun _ _ _ h => h) (Or.inl ⟨by rfl, ?_⟩) hHeld ?_
                rotate_left
                · (intro w hSw; (try dsimp only at hSw); go_simp; all_goals (with_reducible rfl))
                try simp only [Act.put, List.setIfInBounds_toArray, List.set_cons_zero, List.set_cons_succ]
                refine held_take (i := 7) (d := 106) (v := ?_) rfl rfl (by kernel_rfl) (by kernel_rfl) (by kernel_rfl) (fun _ _ _ h => h) (Or.inl ⟨by rfl, ?_⟩) hHeld ?_
                rotate_left
                · (intro w hSw; (try dsimp only at hSw); go_simp; all_goals (with_reducible rfl))
                try simp only [Act.put, List.setIfInBounds_toArray, List.set_cons_zero, List.set_cons_succ]
                refine wpAnyH_ready (rs := [8]) (by kernel_rfl) (by simp) ?_
                refine AllReadyH.cons rfl (fun K hK => ?_) AllReadyH.nil
                go_simp
                refine HMT.out.mono ?_
                rintro e wz ⟨rfl, hbz⟩
                have HTz : Hid (Three wz p sb G Bf Xf) := (HTy.out.later (Below.refl _ _).drew).later hbz
                have HWz : Hid (Below p w wz) := HWy.out.drew.trans (hbz.mono (by simp only [World.size_drew]; exact HTy.out.lt))
                clear hbz HMT
                go_wp2_with fail
                refine hK.out _ _ ?_ (fun hHeld => ?_)
                · exact ⟨HTz.out.cells x hx3, HTz.out.cells y (by omega)⟩
                clear hK K
                try simp only [Act.put, List.setIfInBounds_toArray, List.set_cons_zero, List.set_cons_succ]
                refine held_take (i := 9) (d := 108) (v := ?_) rfl rfl (by kernel_rfl) (by kernel_rfl) (by kernel_rfl) (fun _ _ _ h => h) (Or.inl ⟨by rfl, ?_⟩) hHeld ?_
                rotate_left
                · (intro w hSw; (try dsimp only at hSw); go_simp; all_goals (with_reducible rfl))
                try simp only [Act.put, List.setIfInBounds_toArray, List.set_cons_zero, List.set_cons_succ]
                refine wpAnyH_done (by kernel_rfl) ?_ _
                refine NoPanic.normal ?_
                go_wp2
                go_roundw
                case rel => exact ⟨y + 1, by go_num, by omega, HTz, HWz⟩
                case measure => simp [intOf]; omega
              · go_wp2
                go_roundw
                case rel => exact ⟨x + 1, by go_num, by omega, HTy, HWy⟩
                case measure => simp [intOf]; omega
          · go_wp2
            go_roundw
            case rel => exact ⟨k + 1, ld, ep, (sq + 1), by go_num, by omega, by omega, by first | rfl | go_num, by omega, by first | rfl | go_num, by omega, by omega, by first | rfl | go_num, by omega, by omega, ⟨Bf, Xf, HTx.out, HIf.out, HXf.out⟩, HWx⟩
            case measure => simp [intOf]; omega
      by_cases k2 : kd = 2
      · subst k2
        have m3 : y2.cell? ⟨px, 3, none⟩ = some (.int .i64 mp) := cell_of_heap HM2.out rfl
        obtain ⟨lb, hlb⟩ : ∃ lb, (X bb).length = lb := ⟨_, rfl⟩
        have hlk : lb ≤ k := by rw [← hlb]; exact HX.out bb
        have HLEN : Hid (∀ q, Calls Try.prog 27 #[.pointer (some ⟨G bb, 0, none⟩)] (y2.drewN q) fun e w' => e = .returned (.int .i64 (lb : Nat)) ∧ w' = y2.drewN q) := three_len HT2.out bb hb3 lb hlb
        obtain ⟨pv, hpv⟩ : ∃ a : Nat, modI mp ((lb : Int) + 1) = (a : Nat) := ⟨(modI mp ((lb : Int) + 1)).toNat, by have := modI_in mp ((lb : Int) + 1) (by omega); omega⟩
        have hpl : pv ≤ lb := by have := modI_in mp ((lb : Int) + 1) (by omega); omega
        have HQP : Hid (∀ w, Calls Try.prog 25 #[.int .i64 mp, .int .i64 ((lb : Nat) + 1)] w fun e w' => e = .returned (.int .i64 (pv : Nat)) ∧ w' = w) := fun w => by rw [← hpv]; exact mod_any mp _ w (by omega) (by omega)
        have HLB : Hid ((X bb).length = lb) := hlb
        clear hpv hlb
        go_upto_region 16 with fail
        go_quiet (first | with_reducible exact Calls.quiet_of_same (HLEN.out _) | with_reducible exact Calls.quiet_of_same (HQP.out _))
        clear m3
        have HT3 : Hid (Three (y2.drewN nq) p sb G B X) := HT2.out.later (below_drewN (Below.refl _ _) nq)
        have HW3 : Hid (Below p w (y2.drewN nq)) := below_drewN HW2.out nq
        have HM3 : Hid ((y2.drewN nq).heap[px]? = some (.cells #[.int .i64 2, .int .i64 ma, .int .i64 mb, .int .i64 mp, .int .i64 mm] 68)) := HM2.out
        clear HT2 HW2 HM2 HLEN HQP
        generalize y2.drewN nq = y3 at *
        have m1 : y3.cell? ⟨px, 1, none⟩ = some (.int .i64 ma) := cell_of_heap HM3.out rfl
        by_cases hal : a = ld
        · have hz : ((a : Nat) : Int) = (ld : Nat) := by omega
          have hz2 : (((a : Nat) : Int) != (ld : Nat)) = false := by simp; omega
          go_wp2_with fail
          refine (HQA.out _).mono ?_
          rintro e wz ⟨rfl, hwz⟩
          subst wz
          clear m1
          obtain ⟨Bf, Xf, HTf, HIf, HXf, HWf⟩ : ∃ Bf Xf, Hid (Three y3 p sb G Bf Xf) ∧ Hid (Inv ep ld Xf) ∧ Hid (∀ x, (Xf x).length ≤ k + 1) ∧ Hid (Below p w y3) := ⟨B, X, HT3, HI.out, fun x => by have := HX.out x; omega, HW3⟩
          clear HI HX
          clear HT3 HW3 HM3
          go_wp2
          go_loopw [12] (fun xv wx => ∃ x : Nat, xv = .int .i64 (x : Nat) ∧ x ≤ 3 ∧ Hid (Three wx p sb G Bf Xf) ∧ Hid (Below p w wx)) (fun xv _ => 3 - (intOf xv).toNat)
          case atStart => exact ⟨0, rfl, by omega, HTf, HWf⟩
          case round =>
            obtain ⟨x, rfl, hx, HTx, HWx⟩ := hrel
            by_cases hx3 : x < 3
            · have jx : ((x : Nat) : Int) < 3 := by omega
              go_wp2
              go_loopw [13] (fun yv wy => ∃ y : Nat, yv = .int .i64 (y : Nat) ∧ y ≤ x ∧ Hid (Three wy p sb G Bf Xf) ∧ Hid (Below p w wy)) (fun yv _ => x - (intOf yv).toNat)
              case atStart => exact ⟨0, rfl, by omega, HTx, HWx⟩
              case round =>
                obtain ⟨y, rfl, hy, HTy, HWy⟩ := hrel
                by_cases hyx : y < x
                · have jyx : ((y : Nat) : Int) < (x : Nat) := by omega
                  have jy : ((y : Nat) : Int) < 3 := by omega
                  have ix : (0 : Int) ≤ (x : Int) := by omega
                  have iy : (0 : Int) ≤ (y : Int) := by omega
                  have hmt := matched_any (G x) (G y) (Bf x) (Bf y) (Xf x) (Xf y) wr.drew ((HTy.out.lg x hx3).later (Below.refl _ _).drew) ((HTy.out.lg y (by omega)).later (Below.refl _ _).drew) (HIf.out.mat x y) (by have := HXf.out x; omega) (by have := HXf.out y; omega)
                  have HMT : Hid (Calls Try.prog 29 #[.pointer (some ⟨G x, 0, none⟩), .pointer (some ⟨G y, 0, none⟩)] wr.drew fun e w' => e = .returned (.bool true) ∧ Below wr.drew.heap.size wr.drew w') := hmt
                  clear hmt
                  go_upto_region 28 with fail
                  refine wp_region_noPanic ?_
                  refine wp_region_held_drew (S := (fun w' => w'.cell? ⟨sb, x, none⟩ = some (.pointer (some ⟨G x, 0, none⟩)) ∧ w'.cell? ⟨sb, y, none⟩ = some (.pointer (some ⟨G y, 0, none⟩)))) (by kernel_rfl) ?_ (fun hHeld => ?_)
                  · exact ⟨HTy.out.cells x hx3, HTy.out.cells y (by omega)⟩
                  refine held_take (i := 0) (d := 99) (v := ?_) rfl rfl (by kernel_rfl) (by kernel_rfl) (by kernel_rfl) (fun _ _ _ h => h) (Or.inl ⟨by rfl, ?_⟩) hHeld ?_
                  rotate_left
                  · (intro w hSw; (try dsimp only at hSw); go_simp; all_goals (with_reducible rfl))
                  try simp only [Act.put, List.setIfInBounds_toArray, List.set_cons_zero, List.set_cons_succ]
                  refine held_take (i := 1) (d := 100) (v := ?_) rfl rfl (by kernel_rfl) (by kernel_rfl) (by kernel_rfl) (fun _ _ _ h => h) (Or.inl ⟨by rfl, ?_⟩) hHeld ?_
                  rotate_left
                  · (intro w hSw; (try dsimp only at hSw); go_simp; all_goals (with_reducible rfl))
                  try simp only [Act.put, List.setIfInBounds_toArray, List.set_cons_zero, List.set_cons_succ]
                  refine held_take (i := 2) (d := 101) (v := ?_) rfl rfl (by kernel_rfl) (by kernel_rfl) (by kernel_rfl) (fun _ _ _ h => h) (Or.inl ⟨by rfl, ?_⟩) hHeld ?_
                  rotate_left
                  · (intro w hSw; (try dsimp only at hSw); go_simp; all_goals (with_reducible rfl))
                  try simp only [Act.put, List.setIfInBounds_toArray, List.set_cons_zero, List.set_cons_succ]
                  refine held_take (i := 3) (d := 102) (v := ?_) rfl rfl (by kernel_rfl) (by kernel_rfl) (by kernel_rfl) (fun _ _ _ h => h) (Or.inl ⟨by rfl, ?_⟩) hHeld ?_
                  rotate_left
                  · (intro w hSw; (try dsimp only at hSw); go_simp; all_goals (with_reducible rfl))
                  try simp only [Act.put, List.setIfInBounds_toArray, List.set_cons_zero, List.set_cons_succ]
                  refine held_take (i := 4) (d := 103) (v := ?_) rfl rfl (by kernel_rfl) (by kernel_rfl) (by kernel_rfl) (fun _ _ _ h => h) (Or.inl ⟨by rfl, ?_⟩) hHeld ?_
                  rotate_left
                  · (intro w hSw; (try dsimp only at hSw); go_simp; all_goals (with_reducible rfl))
                  try simp only [Act.put, List.setIfInBounds_toArray, List.set_cons_zero, List.set_cons_succ]
                  refine held_take (i := 5) (d := 104) (v := ?_) rfl rfl (by kernel_rfl) (by kernel_rfl) (by kernel_rfl) (fun _ _ _ h => h) (Or.inl ⟨by rfl, ?_⟩) hHeld ?_
                  rotate_left
                  · (intro w hSw; (try dsimp only at hSw); go_simp; all_goals (with_reducible rfl))
                  try simp only [Act.put, List.setIfInBounds_toArray, List.set_cons_zero, List.set_cons_succ]
                  refine held_take (i := 6) (d := 105) (v := ?_) rfl rfl (by kernel_rfl) (by kernel_rfl) (by kernel_rfl) (fun _ _ _ h => h) (Or.inl ⟨by rfl, ?_⟩) hHeld ?_
                  rotate_left
                  · (intro w hSw; (try dsimp only at hSw); go_simp; all_goals (with_reducible rfl))
                  try simp only [Act.put, List.setIfInBounds_toArray, List.set_cons_zero, List.set_cons_succ]
                  refine held_take (i := 7) (d := 106) (v := ?_) rfl rfl (by kernel_rfl) (by kernel_rfl) (by kernel_rfl) (fun _ _ _ h => h) (Or.inl ⟨by rfl, ?_⟩) hHeld ?_
                  rotate_left
                  · (intro w hSw; (try dsimp only at hSw); go_simp; all_goals (with_reducible rfl))
                  try simp only [Act.put, List.setIfInBounds_toArray, List.set_cons_zero, List.set_cons_succ]
                  refine wpAnyH_ready (rs := [8]) (by kernel_rfl) (by simp) ?_
                  refine AllReadyH.cons rfl (fun K hK => ?_) AllReadyH.nil
                  go_simp
                  refine HMT.out.mono ?_
                  rintro e wz ⟨rfl, hbz⟩
                  have HTz : Hid (Three wz p sb G Bf Xf) := (HTy.out.later (Below.refl _ _).drew).later hbz
                  have HWz : Hid (Below p w wz) := HWy.out.drew.trans (hbz.mono (by simp only [World.size_drew]; exact HTy.out.lt))
                  clear hbz HMT
                  go_wp2_with fail
                  refine hK.out _ _ ?_ (fun hHeld => ?_)
                  · exact ⟨HTz.out.cells x hx3, HTz.out.cells y (by omega)⟩
                  clear hK K
                  try simp only [Act.put, List.setIfInBounds_toArray, List.set_cons_zero, List.set_cons_succ]
                  refine held_take (i := 9) (d := 108) (v := ?_) rfl rfl (by kernel_rfl) (by kernel_rfl) (by kernel_rfl) (fun _ _ _ h => h) (Or.inl ⟨by rfl, ?_⟩) hHeld ?_
                  rotate_left
                  · (intro w hSw; (try dsimp only at hSw); go_simp; all_goals (with_reducible rfl))
                  try simp only [Act.put, List.setIfInBounds_toArray, List.set_cons_zero, List.set_cons_succ]
                  refine wpAnyH_done (by kernel_rfl) ?_ _
                  refine NoPanic.normal ?_
                  go_wp2
                  go_roundw
                  case rel => exact ⟨y + 1, by go_num, by omega, HTz, HWz⟩
                  case measure => simp [intOf]; omega
                · go_wp2
                  go_roundw
                  case rel => exact ⟨x + 1, by go_num, by omega, HTy, HWy⟩
                  case measure => simp [intOf]; omega
            · go_wp2
              go_roundw
              case rel => exact ⟨k + 1, ld, ep, sq, by go_num, by omega, by omega, by first | rfl | go_num, by omega, by first | rfl | go_num, by omega, by omega, by first | rfl | go_num, by omega, by omega, ⟨Bf, Xf, HTx.out, HIf.out, HXf.out⟩, HWx⟩
              case measure => simp [intOf]; omega
        · have hz2 : (((a : Nat) : Int) != (ld : Nat)) = true := by simp; omega
          go_wp2_with fail
          refine (HQA.out _).mono ?_
          rintro e wz ⟨rfl, hwz⟩
          subst wz
          clear m1
          go_upto_region 18 with fail
          obtain ⟨mv, hmv⟩ : ∃ a : Nat, modI mm 5 = (a : Nat) := ⟨(modI mm 5).toNat, by have := modI_in mm 5 (by omega); omega⟩
          have hmv5 : mv < 5 := by have := modI_in mm 5 (by omega); omega
          have HMM : Hid (∀ w, Calls Try.prog 25 #[.int .i64 mm, .int .i64 5] w fun e w' => e = .returned (.int .i64 (mv : Nat)) ∧ w' = w) := fun w => by rw [← hmv]; exact mod_any mm 5 w (by omega) (by omega)
          clear hmv
          have HE : Hid (∀ w, Three w p sb G B X → Calls Try.prog 14 #[.pointer (some ⟨G bb, 0, none⟩), .int .i64 (pv : Nat)] w fun e w' => e = .returned (.int .u64 (epoL (X bb) (pv : Nat))) ∧ w' = w) := fun w hw => by
            have := epoch_any (G bb) (B bb) (flatL (X bb)) (pv : Nat) w (hw.lg bb hb3) (by rw [flatL_length]; have := HX.out bb; omega)
            rw [epL_flat] at this
            exact this
          have HFR : Hid (∀ w, Three w p sb G B X → Calls Try.prog 12 #[.pointer (some ⟨G bb, 0, none⟩), .int .i64 (pv : Nat), .int .i64 (IntKind.i64.wrap (1 + (mv : Int)))] w (Told w (flatL (((X bb).drop pv).take (1 + mv))))) := fun w hw => by
            have := from_any (G bb) (B bb) (flatL (X bb)) pv (1 + mv) w (hw.lg bb hb3) (by rw [flatL_length]; have := HX.out bb; omega) (by rw [flatL_length, HLB.out]; exact hpl) (by omega) (by omega)
            rw [told_flat, show ((1 + mv : Nat) : Int) = 1 + (mv : Nat) by omega] at this
            rw [show IntKind.i64.wrap (1 + (mv : Int)) = 1 + (mv : Nat) by rw [IntKind.wrap_i64]; omega]
            exact this
          have hni := new_inv HI.out a bb pv (1 + mv) hal (by rw [HLB.out]; exact hpl)
          have HNI : Hid (Inv ep ld (upd X a (newLog (X a) (((X bb).drop pv).take (1 + mv)) pv (epoL (X bb) pv)))) := hni.1
          have HNX : Hid ((newLog (X a) (((X bb).drop pv).take (1 + mv)) pv (epoL (X bb) pv)).length ≤ k) := hni.2 k (HX.out a) (HX.out bb)
          have HNL : Hid ((((X bb).drop pv).take (1 + mv)).length ≤ 400 ∧ (newLog (X a) (((X bb).drop pv).take (1 + mv)) pv (epoL (X bb) pv)).Pairwise (fun a b => a.1 ≤ b.1) ∧ (∀ e ∈ newLog (X a) (((X bb).drop pv).take (1 + mv)) pv (epoL (X bb) pv), 1 ≤ e.1 ∧ 1 ≤ e.2) ∧ (newLog (X a) (((X bb).drop pv).take (1 + mv)) pv (epoL (X bb) pv)).length ≤ 400) := by
            have g1 := HNI.out.rise a
            have g2 := HNI.out.ok a
            rw [upd_same] at g1 g2
            refine ⟨by rw [List.length_take]; omega, g1, fun e he => ⟨(g2 e he).1, (g2 e he).2.2⟩, by have := HNX.out; omega⟩
          clear hni
          refine wp_region_noPanic ?_
          refine wp_region_held_drew (S := (fun w' => w'.cell? ⟨px, 4, none⟩ = some (.int .i64 mm))) (by kernel_rfl) ?_ (fun hHeld => ?_)
          · exact cell_of_heap HM3.out rfl
          have HT3' : Hid (Three y3.drew p sb G B X) := HT3.out.later (Below.refl _ _).drew
          have HW3' : Hid (Below p w y3.drew) := HW3.out.drew
          have HM3' : Hid (y3.drew.heap[px]? = some (.cells #[.int .i64 2, .int .i64 ma, .int .i64 mb, .int .i64 mp, .int .i64 mm] 68)) := HM3.out
          clear HT3 HW3 HM3
          generalize y3.drew = y3 at *
          have HT3 := HT3'
          have HW3 := HW3'
          have HM3 := HM3'
          clear HT3' HW3' HM3'
          refine held_take (i := 0) (d := 70) (v := ?_) rfl rfl (by kernel_rfl) (by kernel_rfl) (by kernel_rfl) (fun _ _ _ h => h) (Or.inl ⟨by rfl, ?_⟩) hHeld ?_
          rotate_left
          · (intro w hSw; (try dsimp only at hSw); go_simp; all_goals (with_reducible rfl))
          try simp only [Act.put, List.setIfInBounds_toArray, List.set_cons_zero, List.set_cons_succ]
          refine held_take (i := 1) (d := 71) (v := ?_) rfl rfl (by kernel_rfl) (by kernel_rfl) (by kernel_rfl) (fun _ _ _ h => h) (Or.inl ⟨by rfl, ?_⟩) hHeld ?_
          rotate_left
          · (intro w hSw; (try dsimp only at hSw); go_simp; all_goals (with_reducible rfl))
          try simp only [Act.put, List.setIfInBounds_toArray, List.set_cons_zero, List.set_cons_succ]
          refine held_take (i := 2) (d := 72) (v := ?_) rfl rfl (by kernel_rfl) (by kernel_rfl) (by kernel_rfl) (fun _ _ _ h => h) (Or.inl ⟨by rfl, ?_⟩) hHeld ?_
          rotate_left
          · (intro w hSw; (try dsimp only at hSw); go_simp; all_goals (with_reducible rfl))
          try simp only [Act.put, List.setIfInBounds_toArray, List.set_cons_zero, List.set_cons_succ]
          refine held_take (i := 3) (d := 73) (v := ?_) rfl rfl (by kernel_rfl) (by kernel_rfl) (by kernel_rfl) (fun _ _ _ h => h) (Or.inl ⟨by rfl, ?_⟩) hHeld ?_
          rotate_left
          · (intro w hSw; (try dsimp only at hSw); go_simp; all_goals (with_reducible rfl))
          try simp only [Act.put, List.setIfInBounds_toArray, List.set_cons_zero, List.set_cons_succ]
          refine held_take (i := 5) (d := 75) (v := ?_) rfl rfl (by kernel_rfl) (by kernel_rfl) (by kernel_rfl) (fun _ _ _ h => h) (Or.inl ⟨by rfl, ?_⟩) hHeld ?_
          rotate_left
          · (intro w hSw; (try dsimp only at hSw); go_simp; all_goals (with_reducible rfl))
          try simp only [Act.put, List.setIfInBounds_toArray, List.set_cons_zero, List.set_cons_succ]
          refine held_take (i := 6) (d := 76) (v := ?_) rfl rfl (by kernel_rfl) (by kernel_rfl) (by kernel_rfl) (fun _ _ _ h => h) (Or.inl ⟨by rfl, ?_⟩) hHeld ?_
          rotate_left
          · (intro w hSw; (try dsimp only at hSw); go_simp; all_goals (with_reducible rfl))
          try simp only [Act.put, List.setIfInBounds_toArray, List.set_cons_zero, List.set_cons_succ]
          refine held_take (i := 7) (d := 77) (v := ?_) rfl rfl (by kernel_rfl) (by kernel_rfl) (by kernel_rfl) (fun _ _ _ h => h) (Or.inl ⟨by rfl, ?_⟩) hHeld ?_
          rotate_left
          · (intro w hSw; (try dsimp only at hSw); go_simp; all_goals (with_reducible rfl))
          try simp only [Act.put, List.setIfInBounds_toArray, List.set_cons_zero, List.set_cons_succ]
          refine held_take (i := 8) (d := 78) (v := ?_) rfl rfl (by kernel_rfl) (by kernel_rfl) (by kernel_rfl) (fun _ _ _ h => h) (Or.inl ⟨by rfl, ?_⟩) hHeld ?_
          rotate_left
          · (intro w hSw; (try dsimp only at hSw); go_simp; all_goals (with_reducible rfl))
          try simp only [Act.put, List.setIfInBounds_toArray, List.set_cons_zero, List.set_cons_succ]
          refine wpAnyH_ready (rs := [4]) (by kernel_rfl) (by simp) ?_
          refine AllReadyH.cons rfl (fun K hK => ?_) AllReadyH.nil
          go_simp
          refine (HE.out _ (by first | exact HT3.out | exact HT4.out)).mono ?_
          rintro e wz ⟨rfl, hwz⟩
          subst wz
          go_wp2_with fail
          refine hK.out _ _ ?_ (fun hHeld => ?_)
          · exact cell_of_heap HM3.out rfl
          clear hK K
          try simp only [Act.put, List.setIfInBounds_toArray, List.set_cons_zero, List.set_cons_succ]
          refine wpAnyH_ready (rs := [9]) (by kernel_rfl) (by simp) ?_
          refine AllReadyH.cons rfl (fun K hK => ?_) AllReadyH.nil
          go_simp
          refine (HMM.out _).mono ?_
          rintro e wz ⟨rfl, hwz⟩
          subst wz
          go_wp2_with fail
          refine hK.out _ _ ?_ (fun hHeld => ?_)
          · exact cell_of_heap HM3.out rfl
          clear hK K
          try simp only [Act.put, List.setIfInBounds_toArray, List.set_cons_zero, List.set_cons_succ]
          refine held_take (i := 10) (d := 80) (v := ?_) rfl rfl (by kernel_rfl) (by kernel_rfl) (by kernel_rfl) (fun _ _ _ h => h) (Or.inl ⟨by rfl, ?_⟩) hHeld ?_
          rotate_left
          · (intro w hSw; (try dsimp only at hSw); go_simp; all_goals (with_reducible rfl))
          try simp only [Act.put, List.setIfInBounds_toArray, List.set_cons_zero, List.set_cons_succ]
          refine wpAnyH_ready (rs := [11]) (by kernel_rfl) (by simp) ?_
          refine AllReadyH.cons rfl (fun K hK => ?_) AllReadyH.nil
          go_simp
          refine (HFR.out _ HT3.out).mono ?_
          rintro e y4 ⟨Q, v, rfl, hq1, hrel, -, hb4⟩
          obtain rfl := hrel.flat
          clear hrel
          obtain ⟨pa, pn, pc, rfl⟩ := owns_slice hq1
          have HT4 : Hid (Three y4 p sb G B X) := HT3.out.later hb4
          have HM4 : Hid (y4.heap[px]? = some (.cells #[.int .i64 2, .int .i64 ma, .int .i64 mb, .int .i64 mp, .int .i64 mm] 68)) := keepc hb4 HM3.out
          have HW4 : Hid (Below p w y4) := HW3.out.trans (hb4.mono HT3.out.lt)
          have HQ4 : Hid (y4.ownsRow 0 45 10 (.slice pa pn pc) (flatL (((X bb).drop pv).take (1 + mv))).length ((flatL (((X bb).drop pv).take (1 + mv))).flatMap Ev.cells) ∧ ∀ k, (Value.slice pa pn pc).ownBlock = some k → k ≠ G a ∧ some k ≠ B a) := by
            refine ⟨owns_mono hq1 (Nat.zero_le _), fun k hk => ?_⟩
            have hge := owns_ge hq1 k hk
            have l1 := (HT3.out.lg a ha3).lt
            refine ⟨by omega, fun e => ?_⟩
            have l2 := tag_lt ((HT3.out.lg a ha3).tags.2 k e.symm)
            omega
          clear hq1 hb4
          go_wp2_with fail
          refine hK.out _ _ ?_ (fun hHeld => ?_)
          · exact cell_of_heap HM4.out rfl
          clear hK K
          try simp only [Act.put, List.setIfInBounds_toArray, List.set_cons_zero, List.set_cons_succ]
          refine wpAnyH_ready (rs := [12]) (by kernel_rfl) (by simp) ?_
          refine AllReadyH.cons rfl (fun K hK => ?_) AllReadyH.nil
          go_simp
          refine (take_any (G a) (B a) (X a) pa pn pc (((X bb).drop pv).take (1 + mv)) pv (epoL (X bb) pv) y4 (HT4.out.lg a ha3) (by have := HX.out a; omega) HQ4.out.1 HQ4.out.2 HNL.out.1 HNL.out.2 (by omega)).mono ?_
          rintro e y5 ⟨rfl, ob5, hl5, hk5, ho5⟩
          obtain ⟨Bf, hT5, hb5⟩ := HT4.out.set ha3 hl5 hk5 ho5
          have HT5 : Hid (∃ Bf, Three y5 p sb G Bf (upd X a (newLog (X a) (((X bb).drop pv).take (1 + mv)) pv (epoL (X bb) pv))) ∧ Below p w y5) := ⟨Bf, hT5, HW4.out.trans hb5⟩
          have HM5 : Hid (y5.heap[px]? = some (.cells #[.int .i64 2, .int .i64 ma, .int .i64 mb, .int .i64 mp, .int .i64 mm] 68)) := by
            have t0 := tagOf_heap HM4.out
            obtain ⟨t1, t2⟩ := (HT4.out.lg a ha3).tags
            exact (hk5.block px (Array.getElem?_eq_some_iff.1 HM4.out).1 (fun e => by rw [e, t1] at t0; cases t0) (fun e => by rw [t2 px e.symm] at t0; cases t0)).trans HM4.out
          clear hl5 hk5 ho5 hT5 hb5
          go_wp2_with fail
          refine hK.out _ _ ?_ (fun hHeld => ?_)
          · exact cell_of_heap HM5.out rfl
          clear hK K
          try simp only [Act.put, List.setIfInBounds_toArray, List.set_cons_zero, List.set_cons_succ]
          refine wpAnyH_done (by kernel_rfl) ?_ _
          refine NoPanic.normal ?_
          obtain ⟨Bf, hTc, hWc⟩ := HT5.out
          obtain ⟨Xf, hXf⟩ : ∃ Xf, Xf = upd X a (newLog (X a) (((X bb).drop pv).take (1 + mv)) pv (epoL (X bb) pv)) := ⟨_, rfl⟩
          rw [← hXf] at hTc
          have HTf : Hid (Three y5 p sb G Bf Xf) := hTc
          have HWf : Hid (Below p w y5) := hWc
          have HIf : Hid (Inv ep ld Xf) := by rw [hXf]; exact HNI.out
          have HXf : Hid (∀ x, (Xf x).length ≤ k + 1) := fun x => by
            rw [hXf]
            unfold upd
            split
            · have := HNX.out; omega
            · have := HX.out x; omega
          clear HT5 hTc hWc hXf HT3 HW3 HM3 HT4 HW4 HM4 HQ4 HM5 HNI HNX HNL HFR HE HMM HI HX
          go_wp2
          go_loopw [12] (fun xv wx => ∃ x : Nat, xv = .int .i64 (x : Nat) ∧ x ≤ 3 ∧ Hid (Three wx p sb G Bf Xf) ∧ Hid (Below p w wx)) (fun xv _ => 3 - (intOf xv).toNat)
          case atStart => exact ⟨0, rfl, by omega, HTf, HWf⟩
          case round =>
            obtain ⟨x, rfl, hx, HTx, HWx⟩ := hrel
            by_cases hx3 : x < 3
            · have jx : ((x : Nat) : Int) < 3 := by omega
              go_wp2
              go_loopw [13] (fun yv wy => ∃ y : Nat, yv = .int .i64 (y : Nat) ∧ y ≤ x ∧ Hid (Three wy p sb G Bf Xf) ∧ Hid (Below p w wy)) (fun yv _ => x - (intOf yv).toNat)
              case atStart => exact ⟨0, rfl, by omega, HTx, HWx⟩
              case round =>
                obtain ⟨y, rfl, hy, HTy, HWy⟩ := hrel
                by_cases hyx : y < x
                · have jyx : ((y : Nat) : Int) < (x : Nat) := by omega
                  have jy : ((y : Nat) : Int) < 3 := by omega
                  have ix : (0 : Int) ≤ (x : Int) := by omega
                  have iy : (0 : Int) ≤ (y : Int) := by omega
                  have hmt := matched_any (G x) (G y) (Bf x) (Bf y) (Xf x) (Xf y) wr.drew ((HTy.out.lg x hx3).later (Below.refl _ _).drew) ((HTy.out.lg y (by omega)).later (Below.refl _ _).drew) (HIf.out.mat x y) (by have := HXf.out x; omega) (by have := HXf.out y; omega)
                  have HMT : Hid (Calls Try.prog 29 #[.pointer (some ⟨G x, 0, none⟩), .pointer (some ⟨G y, 0, none⟩)] wr.drew fun e w' => e = .returned (.bool true) ∧ Below wr.drew.heap.size wr.drew w') := hmt
                  clear hmt
                  go_upto_region 28 with fail
                  refine wp_region_noPanic ?_
                  refine wp_region_held_drew (S := (fun w' => w'.cell? ⟨sb, x, none⟩ = some (.pointer (some ⟨G x, 0, none⟩)) ∧ w'.cell? ⟨sb, y, none⟩ = some (.pointer (some ⟨G y, 0, none⟩)))) (by kernel_rfl) ?_ (fun hHeld => ?_)
                  · exact ⟨HTy.out.cells x hx3, HTy.out.cells y (by omega)⟩
                  refine held_take (i := 0) (d := 99) (v := ?_) rfl rfl (by kernel_rfl) (by kernel_rfl) (by kernel_rfl) (fun _ _ _ h => h) (Or.inl ⟨by rfl, ?_⟩) hHeld ?_
                  rotate_left
                  · (intro w hSw; (try dsimp only at hSw); go_simp; all_goals (with_reducible rfl))
                  try simp only [Act.put, List.setIfInBounds_toArray, List.set_cons_zero, List.set_cons_succ]
                  refine held_take (i := 1) (d := 100) (v := ?_) rfl rfl (by kernel_rfl) (by kernel_rfl) (by kernel_rfl) (fun _ _ _ h => h) (Or.inl ⟨by rfl, ?_⟩) hHeld ?_
                  rotate_left
                  · (intro w hSw; (try dsimp only at hSw); go_simp; all_goals (with_reducible rfl))
                  try simp only [Act.put, List.setIfInBounds_toArray, List.set_cons_zero, List.set_cons_succ]
                  refine held_take (i := 2) (d := 101) (v := ?_) rfl rfl (by kernel_rfl) (by kernel_rfl) (by kernel_rfl) (fun _ _ _ h => h) (Or.inl ⟨by rfl, ?_⟩) hHeld ?_
                  rotate_left
                  · (intro w hSw; (try dsimp only at hSw); go_simp; all_goals (with_reducible rfl))
                  try simp only [Act.put, List.setIfInBounds_toArray, List.set_cons_zero, List.set_cons_succ]
                  refine held_take (i := 3) (d := 102) (v := ?_) rfl rfl (by kernel_rfl) (by kernel_rfl) (by kernel_rfl) (fun _ _ _ h => h) (Or.inl ⟨by rfl, ?_⟩) hHeld ?_
                  rotate_left
                  · (intro w hSw; (try dsimp only at hSw); go_simp; all_goals (with_reducible rfl))
                  try simp only [Act.put, List.setIfInBounds_toArray, List.set_cons_zero, List.set_cons_succ]
                  refine held_take (i := 4) (d := 103) (v := ?_) rfl rfl (by kernel_rfl) (by kernel_rfl) (by kernel_rfl) (fun _ _ _ h => h) (Or.inl ⟨by rfl, ?_⟩) hHeld ?_
                  rotate_left
                  · (intro w hSw; (try dsimp only at hSw); go_simp; all_goals (with_reducible rfl))
                  try simp only [Act.put, List.setIfInBounds_toArray, List.set_cons_zero, List.set_cons_succ]
                  refine held_take (i := 5) (d := 104) (v := ?_) rfl rfl (by kernel_rfl) (by kernel_rfl) (by kernel_rfl) (fun _ _ _ h => h) (Or.inl ⟨by rfl, ?_⟩) hHeld ?_
                  rotate_left
                  · (intro w hSw; (try dsimp only at hSw); go_simp; all_goals (with_reducible rfl))
                  try simp only [Act.put, List.setIfInBounds_toArray, List.set_cons_zero, List.set_cons_succ]
                  refine held_take (i := 6) (d := 105) (v := ?_) rfl rfl (by kernel_rfl) (by kernel_rfl) (by kernel_rfl) (fun _ _ _ h => h) (Or.inl ⟨by rfl, ?_⟩) hHeld ?_
                  rotate_left
                  · (intro w hSw; (try dsimp only at hSw); go_simp; all_goals (with_reducible rfl))
                  try simp only [Act.put, List.setIfInBounds_toArray, List.set_cons_zero, List.set_cons_succ]
                  refine held_take (i := 7) (d := 106) (v := ?_) rfl rfl (by kernel_rfl) (by kernel_rfl) (by kernel_rfl) (fun _ _ _ h => h) (Or.inl ⟨by rfl, ?_⟩) hHeld ?_
                  rotate_left
                  · (intro w hSw; (try dsimp only at hSw); go_simp; all_goals (with_reducible rfl))
                  try simp only [Act.put, List.setIfInBounds_toArray, List.set_cons_zero, List.set_cons_succ]
                  refine wpAnyH_ready (rs := [8]) (by kernel_rfl) (by simp) ?_
                  refine AllReadyH.cons rfl (fun K hK => ?_) AllReadyH.nil
                  go_simp
                  refine HMT.out.mono ?_
                  rintro e wz ⟨rfl, hbz⟩
                  have HTz : Hid (Three wz p sb G Bf Xf) := (HTy.out.later (Below.refl _ _).drew).later hbz
                  have HWz : Hid (Below p w wz) := HWy.out.drew.trans (hbz.mono (by simp only [World.size_drew]; exact HTy.out.lt))
                  clear hbz HMT
                  go_wp2_with fail
                  refine hK.out _ _ ?_ (fun hHeld => ?_)
                  · exact ⟨HTz.out.cells x hx3, HTz.out.cells y (by omega)⟩
                  clear hK K
                  try simp only [Act.put, List.setIfInBounds_toArray, List.set_cons_zero, List.set_cons_succ]
                  refine held_take (i := 9) (d := 108) (v := ?_) rfl rfl (by kernel_rfl) (by kernel_rfl) (by kernel_rfl) (fun _ _ _ h => h) (Or.inl ⟨by rfl, ?_⟩) hHeld ?_
                  rotate_left
                  · (intro w hSw; (try dsimp only at hSw); go_simp; all_goals (with_reducible rfl))
                  try simp only [Act.put, List.setIfInBounds_toArray, List.set_cons_zero, List.set_cons_succ]
                  refine wpAnyH_done (by kernel_rfl) ?_ _
                  refine NoPanic.normal ?_
                  go_wp2
                  go_roundw
                  case rel => exact ⟨y + 1, by go_num, by omega, HTz, HWz⟩
                  case measure => simp [intOf]; omega
                · go_wp2
                  go_roundw
                  case rel => exact ⟨x + 1, by go_num, by omega, HTy, HWy⟩
                  case measure => simp [intOf]; omega
            · go_wp2
              go_roundw
              case rel => exact ⟨k + 1, ld, ep, sq, by go_num, by omega, by omega, by first | rfl | go_num, by omega, by first | rfl | go_num, by omega, by omega, by first | rfl | go_num, by omega, by omega, ⟨Bf, Xf, HTx.out, HIf.out, HXf.out⟩, HWx⟩
              case measure => simp [intOf]; omega
      by_cases k3 : kd = 3
      · subst k3
        have m3 : y2.cell? ⟨px, 3, none⟩ = some (.int .i64 mp) := cell_of_heap HM2.out rfl
        obtain ⟨lb, hlb⟩ : ∃ lb, (X bb).length = lb := ⟨_, rfl⟩
        have hlk : lb ≤ k := by rw [← hlb]; exact HX.out bb
        have HLEN : Hid (∀ q, Calls Try.prog 27 #[.pointer (some ⟨G bb, 0, none⟩)] (y2.drewN q) fun e w' => e = .returned (.int .i64 (lb : Nat)) ∧ w' = y2.drewN q) := three_len HT2.out bb hb3 lb hlb
        obtain ⟨pv, hpv⟩ : ∃ a : Nat, modI mp ((lb : Int) + 1) = (a : Nat) := ⟨(modI mp ((lb : Int) + 1)).toNat, by have := modI_in mp ((lb : Int) + 1) (by omega); omega⟩
        have hpl : pv ≤ lb := by have := modI_in mp ((lb : Int) + 1) (by omega); omega
        have HQP : Hid (∀ w, Calls Try.prog 25 #[.int .i64 mp, .int .i64 ((lb : Nat) + 1)] w fun e w' => e = .returned (.int .i64 (pv : Nat)) ∧ w' = w) := fun w => by rw [← hpv]; exact mod_any mp _ w (by omega) (by omega)
        have HLB : Hid ((X bb).length = lb) := hlb
        clear hpv hlb
        go_upto_region 16 with fail
        go_quiet (first | with_reducible exact Calls.quiet_of_same (HLEN.out _) | with_reducible exact Calls.quiet_of_same (HQP.out _))
        clear m3
        have HT3 : Hid (Three (y2.drewN nq) p sb G B X) := HT2.out.later (below_drewN (Below.refl _ _) nq)
        have HW3 : Hid (Below p w (y2.drewN nq)) := below_drewN HW2.out nq
        have HM3 : Hid ((y2.drewN nq).heap[px]? = some (.cells #[.int .i64 3, .int .i64 ma, .int .i64 mb, .int .i64 mp, .int .i64 mm] 68)) := HM2.out
        clear HT2 HW2 HM2 HLEN HQP
        generalize y2.drewN nq = y3 at *
        have m1 : y3.cell? ⟨px, 1, none⟩ = some (.int .i64 ma) := cell_of_heap HM3.out rfl
        by_cases hal : a = ld
        · have hz : ((a : Nat) : Int) = (ld : Nat) := by omega
          have hz2 : (((a : Nat) : Int) != (ld : Nat)) = false := by simp; omega
          go_wp2_with fail
          refine (HQA.out _).mono ?_
          rintro e wz ⟨rfl, hwz⟩
          subst wz
          clear m1
          obtain ⟨Bf, Xf, HTf, HIf, HXf, HWf⟩ : ∃ Bf Xf, Hid (Three y3 p sb G Bf Xf) ∧ Hid (Inv ep ld Xf) ∧ Hid (∀ x, (Xf x).length ≤ k + 1) ∧ Hid (Below p w y3) := ⟨B, X, HT3, HI.out, fun x => by have := HX.out x; omega, HW3⟩
          clear HI HX
          clear HT3 HW3 HM3
          go_wp2
          go_loopw [12] (fun xv wx => ∃ x : Nat, xv = .int .i64 (x : Nat) ∧ x ≤ 3 ∧ Hid (Three wx p sb G Bf Xf) ∧ Hid (Below p w wx)) (fun xv _ => 3 - (intOf xv).toNat)
          case atStart => exact ⟨0, rfl, by omega, HTf, HWf⟩
          case round =>
            obtain ⟨x, rfl, hx, HTx, HWx⟩ := hrel
            by_cases hx3 : x < 3
            · have jx : ((x : Nat) : Int) < 3 := by omega
              go_wp2
              go_loopw [13] (fun yv wy => ∃ y : Nat, yv = .int .i64 (y : Nat) ∧ y ≤ x ∧ Hid (Three wy p sb G Bf Xf) ∧ Hid (Below p w wy)) (fun yv _ => x - (intOf yv).toNat)
              case atStart => exact ⟨0, rfl, by omega, HTx, HWx⟩
              case round =>
                obtain ⟨y, rfl, hy, HTy, HWy⟩ := hrel
                by_cases hyx : y < x
                · have jyx : ((y : Nat) : Int) < (x : Nat) := by omega
                  have jy : ((y : Nat) : Int) < 3 := by omega
                  have ix : (0 : Int) ≤ (x : Int) := by omega
                  have iy : (0 : Int) ≤ (y : Int) := by omega
                  have hmt := matched_any (G x) (G y) (Bf x) (Bf y) (Xf x) (Xf y) wr.drew ((HTy.out.lg x hx3).later (Below.refl _ _).drew) ((HTy.out.lg y (by omega)).later (Below.refl _ _).drew) (HIf.out.mat x y) (by have := HXf.out x; omega) (by have := HXf.out y; omega)
                  have HMT : Hid (Calls Try.prog 29 #[.pointer (some ⟨G x, 0, none⟩), .pointer (some ⟨G y, 0, none⟩)] wr.drew fun e w' => e = .returned (.bool true) ∧ Below wr.drew.heap.size wr.drew w') := hmt
                  clear hmt
                  go_upto_region 28 with fail
                  refine wp_region_noPanic ?_
                  refine wp_region_held_drew (S := (fun w' => w'.cell? ⟨sb, x, none⟩ = some (.pointer (some ⟨G x, 0, none⟩)) ∧ w'.cell? ⟨sb, y, none⟩ = some (.pointer (some ⟨G y, 0, none⟩)))) (by kernel_rfl) ?_ (fun hHeld => ?_)
                  · exact ⟨HTy.out.cells x hx3, HTy.out.cells y (by omega)⟩
                  refine held_take (i := 0) (d := 99) (v := ?_) rfl rfl (by kernel_rfl) (by kernel_rfl) (by kernel_rfl) (fun _ _ _ h => h) (Or.inl ⟨by rfl, ?_⟩) hHeld ?_
                  rotate_left
                  · (intro w hSw; (try dsimp only at hSw); go_simp; all_goals (with_reducible rfl))
                  try simp only [Act.put, List.setIfInBounds_toArray, List.set_cons_zero, List.set_cons_succ]
                  refine held_take (i := 1) (d := 100) (v := ?_) rfl rfl (by kernel_rfl) (by kernel_rfl) (by kernel_rfl) (fun _ _ _ h => h) (Or.inl ⟨by rfl, ?_⟩) hHeld ?_
                  rotate_left
                  · (intro w hSw; (try dsimp only at hSw); go_simp; all_goals (with_reducible rfl))
                  try simp only [Act.put, List.setIfInBounds_toArray, List.set_cons_zero, List.set_cons_succ]
                  refine held_take (i := 2) (d := 101) (v := ?_) rfl rfl (by kernel_rfl) (by kernel_rfl) (by kernel_rfl) (fun _ _ _ h => h) (Or.inl ⟨by rfl, ?_⟩) hHeld ?_
                  rotate_left
                  · (intro w hSw; (try dsimp only at hSw); go_simp; all_goals (with_reducible rfl))
                  try simp only [Act.put, List.setIfInBounds_toArray, List.set_cons_zero, List.set_cons_succ]
                  refine held_take (i := 3) (d := 102) (v := ?_) rfl rfl (by kernel_rfl) (by kernel_rfl) (by kernel_rfl) (fun _ _ _ h => h) (Or.inl ⟨by rfl, ?_⟩) hHeld ?_
                  rotate_left
                  · (intro w hSw; (try dsimp only at hSw); go_simp; all_goals (with_reducible rfl))
                  try simp only [Act.put, List.setIfInBounds_toArray, List.set_cons_zero, List.set_cons_succ]
                  refine held_take (i := 4) (d := 103) (v := ?_) rfl rfl (by kernel_rfl) (by kernel_rfl) (by kernel_rfl) (fun _ _ _ h => h) (Or.inl ⟨by rfl, ?_⟩) hHeld ?_
                  rotate_left
                  · (intro w hSw; (try dsimp only at hSw); go_simp; all_goals (with_reducible rfl))
                  try simp only [Act.put, List.setIfInBounds_toArray, List.set_cons_zero, List.set_cons_succ]
                  refine held_take (i := 5) (d := 104) (v := ?_) rfl rfl (by kernel_rfl) (by kernel_rfl) (by kernel_rfl) (fun _ _ _ h => h) (Or.inl ⟨by rfl, ?_⟩) hHeld ?_
                  rotate_left
                  · (intro w hSw; (try dsimp only at hSw); go_simp; all_goals (with_reducible rfl))
                  try simp only [Act.put, List.setIfInBounds_toArray, List.set_cons_zero, List.set_cons_succ]
                  refine held_take (i := 6) (d := 105) (v := ?_) rfl rfl (by kernel_rfl) (by kernel_rfl) (by kernel_rfl) (fun _ _ _ h => h) (Or.inl ⟨by rfl, ?_⟩) hHeld ?_
                  rotate_left
                  · (intro w hSw; (try dsimp only at hSw); go_simp; all_goals (with_reducible rfl))
                  try simp only [Act.put, List.setIfInBounds_toArray, List.set_cons_zero, List.set_cons_succ]
                  refine held_take (i := 7) (d := 106) (v := ?_) rfl rfl (by kernel_rfl) (by kernel_rfl) (by kernel_rfl) (fun _ _ _ h => h) (Or.inl ⟨by rfl, ?_⟩) hHeld ?_
                  rotate_left
                  · (intro w hSw; (try dsimp only at hSw); go_simp; all_goals (with_reducible rfl))
                  try simp only [Act.put, List.setIfInBounds_toArray, List.set_cons_zero, List.set_cons_succ]
                  refine wpAnyH_ready (rs := [8]) (by kernel_rfl) (by simp) ?_
                  refine AllReadyH.cons rfl (fun K hK => ?_) AllReadyH.nil
                  go_simp
                  refine HMT.out.mono ?_
                  rintro e wz ⟨rfl, hbz⟩
                  have HTz : Hid (Three wz p sb G Bf Xf) := (HTy.out.later (Below.refl _ _).drew).later hbz
                  have HWz : Hid (Below p w wz) := HWy.out.drew.trans (hbz.mono (by simp only [World.size_drew]; exact HTy.out.lt))
                  clear hbz HMT
                  go_wp2_with fail
                  refine hK.out _ _ ?_ (fun hHeld => ?_)
                  · exact ⟨HTz.out.cells x hx3, HTz.out.cells y (by omega)⟩
                  clear hK K
                  try simp only [Act.put, List.setIfInBounds_toArray, List.set_cons_zero, List.set_cons_succ]
                  refine held_take (i := 9) (d := 108) (v := ?_) rfl rfl (by kernel_rfl) (by kernel_rfl) (by kernel_rfl) (fun _ _ _ h => h) (Or.inl ⟨by rfl, ?_⟩) hHeld ?_
                  rotate_left
                  · (intro w hSw; (try dsimp only at hSw); go_simp; all_goals (with_reducible rfl))
                  try simp only [Act.put, List.setIfInBounds_toArray, List.set_cons_zero, List.set_cons_succ]
                  refine wpAnyH_done (by kernel_rfl) ?_ _
                  refine NoPanic.normal ?_
                  go_wp2
                  go_roundw
                  case rel => exact ⟨y + 1, by go_num, by omega, HTz, HWz⟩
                  case measure => simp [intOf]; omega
                · go_wp2
                  go_roundw
                  case rel => exact ⟨x + 1, by go_num, by omega, HTy, HWy⟩
                  case measure => simp [intOf]; omega
            · go_wp2
              go_roundw
              case rel => exact ⟨k + 1, ld, ep, sq, by go_num, by omega, by omega, by first | rfl | go_num, by omega, by first | rfl | go_num, by omega, by omega, by first | rfl | go_num, by omega, by omega, ⟨Bf, Xf, HTx.out, HIf.out, HXf.out⟩, HWx⟩
              case measure => simp [intOf]; omega
        · have hz2 : (((a : Nat) : Int) != (ld : Nat)) = true := by simp; omega
          go_wp2_with fail
          refine (HQA.out _).mono ?_
          rintro e wz ⟨rfl, hwz⟩
          subst wz
          clear m1
          go_upto_region 18 with fail
          obtain ⟨mv, hmv⟩ : ∃ a : Nat, modI mm 5 = (a : Nat) := ⟨(modI mm 5).toNat, by have := modI_in mm 5 (by omega); omega⟩
          have hmv5 : mv < 5 := by have := modI_in mm 5 (by omega); omega
          have HMM : Hid (∀ w, Calls Try.prog 25 #[.int .i64 mm, .int .i64 5] w fun e w' => e = .returned (.int .i64 (mv : Nat)) ∧ w' = w) := fun w => by rw [← hmv]; exact mod_any mm 5 w (by omega) (by omega)
          clear hmv
          have HE : Hid (∀ w, Three w p sb G B X → Calls Try.prog 14 #[.pointer (some ⟨G bb, 0, none⟩), .int .i64 (pv : Nat)] w fun e w' => e = .returned (.int .u64 (epoL (X bb) (pv : Nat))) ∧ w' = w) := fun w hw => by
            have := epoch_any (G bb) (B bb) (flatL (X bb)) (pv : Nat) w (hw.lg bb hb3) (by rw [flatL_length]; have := HX.out bb; omega)
            rw [epL_flat] at this
            exact this
          have HFR : Hid (∀ w, Three w p sb G B X → Calls Try.prog 12 #[.pointer (some ⟨G bb, 0, none⟩), .int .i64 (pv : Nat), .int .i64 (IntKind.i64.wrap (1 + (mv : Int)))] w (Told w (flatL (((X bb).drop pv).take (1 + mv))))) := fun w hw => by
            have := from_any (G bb) (B bb) (flatL (X bb)) pv (1 + mv) w (hw.lg bb hb3) (by rw [flatL_length]; have := HX.out bb; omega) (by rw [flatL_length, HLB.out]; exact hpl) (by omega) (by omega)
            rw [told_flat, show ((1 + mv : Nat) : Int) = 1 + (mv : Nat) by omega] at this
            rw [show IntKind.i64.wrap (1 + (mv : Int)) = 1 + (mv : Nat) by rw [IntKind.wrap_i64]; omega]
            exact this
          have hni := new_inv HI.out a bb pv (1 + mv) hal (by rw [HLB.out]; exact hpl)
          have HNI : Hid (Inv ep ld (upd X a (newLog (X a) (((X bb).drop pv).take (1 + mv)) pv (epoL (X bb) pv)))) := hni.1
          have HNX : Hid ((newLog (X a) (((X bb).drop pv).take (1 + mv)) pv (epoL (X bb) pv)).length ≤ k) := hni.2 k (HX.out a) (HX.out bb)
          have HNL : Hid ((((X bb).drop pv).take (1 + mv)).length ≤ 400 ∧ (newLog (X a) (((X bb).drop pv).take (1 + mv)) pv (epoL (X bb) pv)).Pairwise (fun a b => a.1 ≤ b.1) ∧ (∀ e ∈ newLog (X a) (((X bb).drop pv).take (1 + mv)) pv (epoL (X bb) pv), 1 ≤ e.1 ∧ 1 ≤ e.2) ∧ (newLog (X a) (((X bb).drop pv).take (1 + mv)) pv (epoL (X bb) pv)).length ≤ 400) := by
            have g1 := HNI.out.rise a
            have g2 := HNI.out.ok a
            rw [upd_same] at g1 g2
            refine ⟨by rw [List.length_take]; omega, g1, fun e he => ⟨(g2 e he).1, (g2 e he).2.2⟩, by have := HNX.out; omega⟩
          clear hni
          refine wp_region_noPanic ?_
          refine wp_region_held_drew (S := (fun w' => w'.cell? ⟨px, 4, none⟩ = some (.int .i64 mm))) (by kernel_rfl) ?_ (fun hHeld => ?_)
          · exact cell_of_heap HM3.out rfl
          have HT3' : Hid (Three y3.drew p sb G B X) := HT3.out.later (Below.refl _ _).drew
          have HW3' : Hid (Below p w y3.drew) := HW3.out.drew
          have HM3' : Hid (y3.drew.heap[px]? = some (.cells #[.int .i64 3, .int .i64 ma, .int .i64 mb, .int .i64 mp, .int .i64 mm] 68)) := HM3.out
          clear HT3 HW3 HM3
          generalize y3.drew = y3 at *
          have HT3 := HT3'
          have HW3 := HW3'
          have HM3 := HM3'
          clear HT3' HW3' HM3'
          refine held_take (i := 0) (d := 70) (v := ?_) rfl rfl (by kernel_rfl) (by kernel_rfl) (by kernel_rfl) (fun _ _ _ h => h) (Or.inl ⟨by rfl, ?_⟩) hHeld ?_
          rotate_left
          · (intro w hSw; (try dsimp only at hSw); go_simp; all_goals (with_reducible rfl))
          try simp only [Act.put, List.setIfInBounds_toArray, List.set_cons_zero, List.set_cons_succ]
          refine held_take (i := 1) (d := 71) (v := ?_) rfl rfl (by kernel_rfl) (by kernel_rfl) (by kernel_rfl) (fun _ _ _ h => h) (Or.inl ⟨by rfl, ?_⟩) hHeld ?_
          rotate_left
          · (intro w hSw; (try dsimp only at hSw); go_simp; all_goals (with_reducible rfl))
          try simp only [Act.put, List.setIfInBounds_toArray, List.set_cons_zero, List.set_cons_succ]
          refine held_take (i := 2) (d := 72) (v := ?_) rfl rfl (by kernel_rfl) (by kernel_rfl) (by kernel_rfl) (fun _ _ _ h => h) (Or.inl ⟨by rfl, ?_⟩) hHeld ?_
          rotate_left
          · (intro w hSw; (try dsimp only at hSw); go_simp; all_goals (with_reducible rfl))
          try simp only [Act.put, List.setIfInBounds_toArray, List.set_cons_zero, List.set_cons_succ]
          refine held_take (i := 3) (d := 73) (v := ?_) rfl rfl (by kernel_rfl) (by kernel_rfl) (by kernel_rfl) (fun _ _ _ h => h) (Or.inl ⟨by rfl, ?_⟩) hHeld ?_
          rotate_left
          · (intro w hSw; (try dsimp only at hSw); go_simp; all_goals (with_reducible rfl))
          try simp only [Act.put, List.setIfInBounds_toArray, List.set_cons_zero, List.set_cons_succ]
          refine held_take (i := 5) (d := 75) (v := ?_) rfl rfl (by kernel_rfl) (by kernel_rfl) (by kernel_rfl) (fun _ _ _ h => h) (Or.inl ⟨by rfl, ?_⟩) hHeld ?_
          rotate_left
          · (intro w hSw; (try dsimp only at hSw); go_simp; all_goals (with_reducible rfl))
          try simp only [Act.put, List.setIfInBounds_toArray, List.set_cons_zero, List.set_cons_succ]
          refine held_take (i := 6) (d := 76) (v := ?_) rfl rfl (by kernel_rfl) (by kernel_rfl) (by kernel_rfl) (fun _ _ _ h => h) (Or.inl ⟨by rfl, ?_⟩) hHeld ?_
          rotate_left
          · (intro w hSw; (try dsimp only at hSw); go_simp; all_goals (with_reducible rfl))
          try simp only [Act.put, List.setIfInBounds_toArray, List.set_cons_zero, List.set_cons_succ]
          refine held_take (i := 7) (d := 77) (v := ?_) rfl rfl (by kernel_rfl) (by kernel_rfl) (by kernel_rfl) (fun _ _ _ h => h) (Or.inl ⟨by rfl, ?_⟩) hHeld ?_
          rotate_left
          · (intro w hSw; (try dsimp only at hSw); go_simp; all_goals (with_reducible rfl))
          try simp only [Act.put, List.setIfInBounds_toArray, List.set_cons_zero, List.set_cons_succ]
          refine held_take (i := 8) (d := 78) (v := ?_) rfl rfl (by kernel_rfl) (by kernel_rfl) (by kernel_rfl) (fun _ _ _ h => h) (Or.inl ⟨by rfl, ?_⟩) hHeld ?_
          rotate_left
          · (intro w hSw; (try dsimp only at hSw); go_simp; all_goals (with_reducible rfl))
          try simp only [Act.put, List.setIfInBounds_toArray, List.set_cons_zero, List.set_cons_succ]
          refine wpAnyH_ready (rs := [4]) (by kernel_rfl) (by simp) ?_
          refine AllReadyH.cons rfl (fun K hK => ?_) AllReadyH.nil
          go_simp
          refine (HE.out _ (by first | exact HT3.out | exact HT4.out)).mono ?_
          rintro e wz ⟨rfl, hwz⟩
          subst wz
          go_wp2_with fail
          refine hK.out _ _ ?_ (fun hHeld => ?_)
          · exact cell_of_heap HM3.out rfl
          clear hK K
          try simp only [Act.put, List.setIfInBounds_toArray, List.set_cons_zero, List.set_cons_succ]
          refine wpAnyH_ready (rs := [9]) (by kernel_rfl) (by simp) ?_
          refine AllReadyH.cons rfl (fun K hK => ?_) AllReadyH.nil
          go_simp
          refine (HMM.out _).mono ?_
          rintro e wz ⟨rfl, hwz⟩
          subst wz
          go_wp2_with fail
          refine hK.out _ _ ?_ (fun hHeld => ?_)
          · exact cell_of_heap HM3.out rfl
          clear hK K
          try simp only [Act.put, List.setIfInBounds_toArray, List.set_cons_zero, List.set_cons_succ]
          refine held_take (i := 10) (d := 80) (v := ?_) rfl rfl (by kernel_rfl) (by kernel_rfl) (by kernel_rfl) (fun _ _ _ h => h) (Or.inl ⟨by rfl, ?_⟩) hHeld ?_
          rotate_left
          · (intro w hSw; (try dsimp only at hSw); go_simp; all_goals (with_reducible rfl))
          try simp only [Act.put, List.setIfInBounds_toArray, List.set_cons_zero, List.set_cons_succ]
          refine wpAnyH_ready (rs := [11]) (by kernel_rfl) (by simp) ?_
          refine AllReadyH.cons rfl (fun K hK => ?_) AllReadyH.nil
          go_simp
          refine (HFR.out _ HT3.out).mono ?_
          rintro e y4 ⟨Q, v, rfl, hq1, hrel, -, hb4⟩
          obtain rfl := hrel.flat
          clear hrel
          obtain ⟨pa, pn, pc, rfl⟩ := owns_slice hq1
          have HT4 : Hid (Three y4 p sb G B X) := HT3.out.later hb4
          have HM4 : Hid (y4.heap[px]? = some (.cells #[.int .i64 3, .int .i64 ma, .int .i64 mb, .int .i64 mp, .int .i64 mm] 68)) := keepc hb4 HM3.out
          have HW4 : Hid (Below p w y4) := HW3.out.trans (hb4.mono HT3.out.lt)
          have HQ4 : Hid (y4.ownsRow 0 45 10 (.slice pa pn pc) (flatL (((X bb).drop pv).take (1 + mv))).length ((flatL (((X bb).drop pv).take (1 + mv))).flatMap Ev.cells) ∧ ∀ k, (Value.slice pa pn pc).ownBlock = some k → k ≠ G a ∧ some k ≠ B a) := by
            refine ⟨owns_mono hq1 (Nat.zero_le _), fun k hk => ?_⟩
            have hge := owns_ge hq1 k hk
            have l1 := (HT3.out.lg a ha3).lt
            refine ⟨by omega, fun e => ?_⟩
            have l2 := tag_lt ((HT3.out.lg a ha3).tags.2 k e.symm)
            omega
          clear hq1 hb4
          go_wp2_with fail
          refine hK.out _ _ ?_ (fun hHeld => ?_)
          · exact cell_of_heap HM4.out rfl
          clear hK K
          try simp only [Act.put, List.setIfInBounds_toArray, List.set_cons_zero, List.set_cons_succ]
          refine wpAnyH_ready (rs := [12]) (by kernel_rfl) (by simp) ?_
          refine AllReadyH.cons rfl (fun K hK => ?_) AllReadyH.nil
          go_simp
          refine (take_any (G a) (B a) (X a) pa pn pc (((X bb).drop pv).take (1 + mv)) pv (epoL (X bb) pv) y4 (HT4.out.lg a ha3) (by have := HX.out a; omega) HQ4.out.1 HQ4.out.2 HNL.out.1 HNL.out.2 (by omega)).mono ?_
          rintro e y5 ⟨rfl, ob5, hl5, hk5, ho5⟩
          obtain ⟨Bf, hT5, hb5⟩ := HT4.out.set ha3 hl5 hk5 ho5
          have HT5 : Hid (∃ Bf, Three y5 p sb G Bf (upd X a (newLog (X a) (((X bb).drop pv).take (1 + mv)) pv (epoL (X bb) pv))) ∧ Below p w y5) := ⟨Bf, hT5, HW4.out.trans hb5⟩
          have HM5 : Hid (y5.heap[px]? = some (.cells #[.int .i64 3, .int .i64 ma, .int .i64 mb, .int .i64 mp, .int .i64 mm] 68)) := by
            have t0 := tagOf_heap HM4.out
            obtain ⟨t1, t2⟩ := (HT4.out.lg a ha3).tags
            exact (hk5.block px (Array.getElem?_eq_some_iff.1 HM4.out).1 (fun e => by rw [e, t1] at t0; cases t0) (fun e => by rw [t2 px e.symm] at t0; cases t0)).trans HM4.out
          clear hl5 hk5 ho5 hT5 hb5
          go_wp2_with fail
          refine hK.out _ _ ?_ (fun hHeld => ?_)
          · exact cell_of_heap HM5.out rfl
          clear hK K
          try simp only [Act.put, List.setIfInBounds_toArray, List.set_cons_zero, List.set_cons_succ]
          refine wpAnyH_done (by kernel_rfl) ?_ _
          refine NoPanic.normal ?_
          obtain ⟨Bf, hTc, hWc⟩ := HT5.out
          obtain ⟨Xf, hXf⟩ : ∃ Xf, Xf = upd X a (newLog (X a) (((X bb).drop pv).take (1 + mv)) pv (epoL (X bb) pv)) := ⟨_, rfl⟩
          rw [← hXf] at hTc
          have HTf : Hid (Three y5 p sb G Bf Xf) := hTc
          have HWf : Hid (Below p w y5) := hWc
          have HIf : Hid (Inv ep ld Xf) := by rw [hXf]; exact HNI.out
          have HXf : Hid (∀ x, (Xf x).length ≤ k + 1) := fun x => by
            rw [hXf]
            unfold upd
            split
            · have := HNX.out; omega
            · have := HX.out x; omega
          clear HT5 hTc hWc hXf HT3 HW3 HM3 HT4 HW4 HM4 HQ4 HM5 HNI HNX HNL HFR HE HMM HI HX
          go_wp2
          go_loopw [12] (fun xv wx => ∃ x : Nat, xv = .int .i64 (x : Nat) ∧ x ≤ 3 ∧ Hid (Three wx p sb G Bf Xf) ∧ Hid (Below p w wx)) (fun xv _ => 3 - (intOf xv).toNat)
          case atStart => exact ⟨0, rfl, by omega, HTf, HWf⟩
          case round =>
            obtain ⟨x, rfl, hx, HTx, HWx⟩ := hrel
            by_cases hx3 : x < 3
            · have jx : ((x : Nat) : Int) < 3 := by omega
              go_wp2
              go_loopw [13] (fun yv wy => ∃ y : Nat, yv = .int .i64 (y : Nat) ∧ y ≤ x ∧ Hid (Three wy p sb G Bf Xf) ∧ Hid (Below p w wy)) (fun yv _ => x - (intOf yv).toNat)
              case atStart => exact ⟨0, rfl, by omega, HTx, HWx⟩
              case round =>
                obtain ⟨y, rfl, hy, HTy, HWy⟩ := hrel
                by_cases hyx : y < x
                · have jyx : ((y : Nat) : Int) < (x : Nat) := by omega
                  have jy : ((y : Nat) : Int) < 3 := by omega
                  have ix : (0 : Int) ≤ (x : Int) := by omega
                  have iy : (0 : Int) ≤ (y : Int) := by omega
                  have hmt := matched_any (G x) (G y) (Bf x) (Bf y) (Xf x) (Xf y) wr.drew ((HTy.out.lg x hx3).later (Below.refl _ _).drew) ((HTy.out.lg y (by omega)).later (Below.refl _ _).drew) (HIf.out.mat x y) (by have := HXf.out x; omega) (by have := HXf.out y; omega)
                  have HMT : Hid (Calls Try.prog 29 #[.pointer (some ⟨G x, 0, none⟩), .pointer (some ⟨G y, 0, none⟩)] wr.drew fun e w' => e = .returned (.bool true) ∧ Below wr.drew.heap.size wr.drew w') := hmt
                  clear hmt
                  go_upto_region 28 with fail
                  refine wp_region_noPanic ?_
                  refine wp_region_held_drew (S := (fun w' => w'.cell? ⟨sb, x, none⟩ = some (.pointer (some ⟨G x, 0, none⟩)) ∧ w'.cell? ⟨sb, y, none⟩ = some (.pointer (some ⟨G y, 0, none⟩)))) (by kernel_rfl) ?_ (fun hHeld => ?_)
                  · exact ⟨HTy.out.cells x hx3, HTy.out.cells y (by omega)⟩
                  refine held_take (i := 0) (d := 99) (v := ?_) rfl rfl (by kernel_rfl) (by kernel_rfl) (by kernel_rfl) (fun _ _ _ h => h) (Or.inl ⟨by rfl, ?_⟩) hHeld ?_
                  rotate_left
                  · (intro w hSw; (try dsimp only at hSw); go_simp; all_goals (with_reducible rfl))
                  try simp only [Act.put, List.setIfInBounds_toArray, List.set_cons_zero, List.set_cons_succ]
                  refine held_take (i := 1) (d := 100) (v := ?_) rfl rfl (by kernel_rfl) (by kernel_rfl) (by kernel_rfl) (fun _ _ _ h => h) (Or.inl ⟨by rfl, ?_⟩) hHeld ?_
                  rotate_left
                  · (intro w hSw; (try dsimp only at hSw); go_simp; all_goals (with_reducible rfl))
                  try simp only [Act.put, List.setIfInBounds_toArray, List.set_cons_zero, List.set_cons_succ]
                  refine held_take (i := 2) (d := 101) (v := ?_) rfl rfl (by kernel_rfl) (by kernel_rfl) (by kernel_rfl) (fun _ _ _ h => h) (Or.inl ⟨by rfl, ?_⟩) hHeld ?_
                  rotate_left
                  · (intro w hSw; (try dsimp only at hSw); go_simp; all_goals (with_reducible rfl))
                  try simp only [Act.put, List.setIfInBounds_toArray, List.set_cons_zero, List.set_cons_succ]
                  refine held_take (i := 3) (d := 102) (v := ?_) rfl rfl (by kernel_rfl) (by kernel_rfl) (by kernel_rfl) (fun _ _ _ h => h) (Or.inl ⟨by rfl, ?_⟩) hHeld ?_
                  rotate_left
                  · (intro w hSw; (try dsimp only at hSw); go_simp; all_goals (with_reducible rfl))
                  try simp only [Act.put, List.setIfInBounds_toArray, List.set_cons_zero, List.set_cons_succ]
                  refine held_take (i := 4) (d := 103) (v := ?_) rfl rfl (by kernel_rfl) (by kernel_rfl) (by kernel_rfl) (fun _ _ _ h => h) (Or.inl ⟨by rfl, ?_⟩) hHeld ?_
                  rotate_left
                  · (intro w hSw; (try dsimp only at hSw); go_simp; all_goals (with_reducible rfl))
                  try simp only [Act.put, List.setIfInBounds_toArray, List.set_cons_zero, List.set_cons_succ]
                  refine held_take (i := 5) (d := 104) (v := ?_) rfl rfl (by kernel_rfl) (by kernel_rfl) (by kernel_rfl) (fun _ _ _ h => h) (Or.inl ⟨by rfl, ?_⟩) hHeld ?_
                  rotate_left
                  · (intro w hSw; (try dsimp only at hSw); go_simp; all_goals (with_reducible rfl))
                  try simp only [Act.put, List.setIfInBounds_toArray, List.set_cons_zero, List.set_cons_succ]
                  refine held_take (i := 6) (d := 105) (v := ?_) rfl rfl (by kernel_rfl) (by kernel_rfl) (by kernel_rfl) (fun _ _ _ h => h) (Or.inl ⟨by rfl, ?_⟩) hHeld ?_
                  rotate_left
                  · (intro w hSw; (try dsimp only at hSw); go_simp; all_goals (with_reducible rfl))
                  try simp only [Act.put, List.setIfInBounds_toArray, List.set_cons_zero, List.set_cons_succ]
                  refine held_take (i := 7) (d := 106) (v := ?_) rfl rfl (by kernel_rfl) (by kernel_rfl) (by kernel_rfl) (fun _ _ _ h => h) (Or.inl ⟨by rfl, ?_⟩) hHeld ?_
                  rotate_left
                  · (intro w hSw; (try dsimp only at hSw); go_simp; all_goals (with_reducible rfl))
                  try simp only [Act.put, List.setIfInBounds_toArray, List.set_cons_zero, List.set_cons_succ]
                  refine wpAnyH_ready (rs := [8]) (by kernel_rfl) (by simp) ?_
                  refine AllReadyH.cons rfl (fun K hK => ?_) AllReadyH.nil
                  go_simp
                  refine HMT.out.mono ?_
                  rintro e wz ⟨rfl, hbz⟩
                  have HTz : Hid (Three wz p sb G Bf Xf) := (HTy.out.later (Below.refl _ _).drew).later hbz
                  have HWz : Hid (Below p w wz) := HWy.out.drew.trans (hbz.mono (by simp only [World.size_drew]; exact HTy.out.lt))
                  clear hbz HMT
                  go_wp2_with fail
                  refine hK.out _ _ ?_ (fun hHeld => ?_)
                  · exact ⟨HTz.out.cells x hx3, HTz.out.cells y (by omega)⟩
                  clear hK K
                  try simp only [Act.put, List.setIfInBounds_toArray, List.set_cons_zero, List.set_cons_succ]
                  refine held_take (i := 9) (d := 108) (v := ?_) rfl rfl (by kernel_rfl) (by kernel_rfl) (by kernel_rfl) (fun _ _ _ h => h) (Or.inl ⟨by rfl, ?_⟩) hHeld ?_
                  rotate_left
                  · (intro w hSw; (try dsimp only at hSw); go_simp; all_goals (with_reducible rfl))
                  try simp only [Act.put, List.setIfInBounds_toArray, List.set_cons_zero, List.set_cons_succ]
                  refine wpAnyH_done (by kernel_rfl) ?_ _
                  refine NoPanic.normal ?_
                  go_wp2
                  go_roundw
                  case rel => exact ⟨y + 1, by go_num, by omega, HTz, HWz⟩
                  case measure => simp [intOf]; omega
                · go_wp2
                  go_roundw
                  case rel => exact ⟨x + 1, by go_num, by omega, HTy, HWy⟩
                  case measure => simp [intOf]; omega
            · go_wp2
              go_roundw
              case rel => exact ⟨k + 1, ld, ep, sq, by go_num, by omega, by omega, by first | rfl | go_num, by omega, by first | rfl | go_num, by omega, by omega, by first | rfl | go_num, by omega, by omega, ⟨Bf, Xf, HTx.out, HIf.out, HXf.out⟩, HWx⟩
              case measure => simp [intOf]; omega
      by_cases k4 : kd = 4
      · subst k4
        have m3 : y2.cell? ⟨px, 3, none⟩ = some (.int .i64 mp) := cell_of_heap HM2.out rfl
        obtain ⟨lb, hlb⟩ : ∃ lb, (X bb).length = lb := ⟨_, rfl⟩
        have hlk : lb ≤ k := by rw [← hlb]; exact HX.out bb
        have HLEN : Hid (∀ q, Calls Try.prog 27 #[.pointer (some ⟨G bb, 0, none⟩)] (y2.drewN q) fun e w' => e = .returned (.int .i64 (lb : Nat)) ∧ w' = y2.drewN q) := three_len HT2.out bb hb3 lb hlb
        obtain ⟨pv, hpv⟩ : ∃ a : Nat, modI mp ((lb : Int) + 1) = (a : Nat) := ⟨(modI mp ((lb : Int) + 1)).toNat, by have := modI_in mp ((lb : Int) + 1) (by omega); omega⟩
        have hpl : pv ≤ lb := by have := modI_in mp ((lb : Int) + 1) (by omega); omega
        have HQP : Hid (∀ w, Calls Try.prog 25 #[.int .i64 mp, .int .i64 ((lb : Nat) + 1)] w fun e w' => e = .returned (.int .i64 (pv : Nat)) ∧ w' = w) := fun w => by rw [← hpv]; exact mod_any mp _ w (by omega) (by omega)
        have HLB : Hid ((X bb).length = lb) := hlb
        clear hpv hlb
        go_upto_region 16 with fail
        go_quiet (first | with_reducible exact Calls.quiet_of_same (HLEN.out _) | with_reducible exact Calls.quiet_of_same (HQP.out _))
        clear m3
        have HT3 : Hid (Three (y2.drewN nq) p sb G B X) := HT2.out.later (below_drewN (Below.refl _ _) nq)
        have HW3 : Hid (Below p w (y2.drewN nq)) := below_drewN HW2.out nq
        have HM3 : Hid ((y2.drewN nq).heap[px]? = some (.cells #[.int .i64 4, .int .i64 ma, .int .i64 mb, .int .i64 mp, .int .i64 mm] 68)) := HM2.out
        clear HT2 HW2 HM2 HLEN HQP
        generalize y2.drewN nq = y3 at *
        have m1 : y3.cell? ⟨px, 1, none⟩ = some (.int .i64 ma) := cell_of_heap HM3.out rfl
        by_cases hal : a = ld
        · have hz : ((a : Nat) : Int) = (ld : Nat) := by omega
          have hz2 : (((a : Nat) : Int) != (ld : Nat)) = false := by simp; omega
          go_wp2_with fail
          refine (HQA.out _).mono ?_
          rintro e wz ⟨rfl, hwz⟩
          subst wz
          clear m1
          obtain ⟨Bf, Xf, HTf, HIf, HXf, HWf⟩ : ∃ Bf Xf, Hid (Three y3 p sb G Bf Xf) ∧ Hid (Inv ep ld Xf) ∧ Hid (∀ x, (Xf x).length ≤ k + 1) ∧ Hid (Below p w y3) := ⟨B, X, HT3, HI.out, fun x => by have := HX.out x; omega, HW3⟩
          clear HI HX
          clear HT3 HW3 HM3
          go_wp2
          go_loopw [12] (fun xv wx => ∃ x : Nat, xv = .int .i64 (x : Nat) ∧ x ≤ 3 ∧ Hid (Three wx p sb G Bf Xf) ∧ Hid (Below p w wx)) (fun xv _ => 3 - (intOf xv).toNat)
          case atStart => exact ⟨0, rfl, by omega, HTf, HWf⟩
          case round =>
            obtain ⟨x, rfl, hx, HTx, HWx⟩ := hrel
            by_cases hx3 : x < 3
            · have jx : ((x : Nat) : Int) < 3 := by omega
              go_wp2
              go_loopw [13] (fun yv wy => ∃ y : Nat, yv = .int .i64 (y : Nat) ∧ y ≤ x ∧ Hid (Three wy p sb G Bf Xf) ∧ Hid (Below p w wy)) (fun yv _ => x - (intOf yv).toNat)
              case atStart => exact ⟨0, rfl, by omega, HTx, HWx⟩
              case round =>
                obtain ⟨y, rfl, hy, HTy, HWy⟩ := hrel
                by_cases hyx : y < x
                · have jyx : ((y : Nat) : Int) < (x : Nat) := by omega
                  have jy : ((y : Nat) : Int) < 3 := by omega
                  have ix : (0 : Int) ≤ (x : Int) := by omega
                  have iy : (0 : Int) ≤ (y : Int) := by omega
                  have hmt := matched_any (G x) (G y) (Bf x) (Bf y) (Xf x) (Xf y) wr.drew ((HTy.out.lg x hx3).later (Below.refl _ _).drew) ((HTy.out.lg y (by omega)).later (Below.refl _ _).drew) (HIf.out.mat x y) (by have := HXf.out x; omega) (by have := HXf.out y; omega)
                  have HMT : Hid (Calls Try.prog 29 #[.pointer (some ⟨G x, 0, none⟩), .pointer (some ⟨G y, 0, none⟩)] wr.drew fun e w' => e = .returned (.bool true) ∧ Below wr.drew.heap.size wr.drew w') := hmt
                  clear hmt
                  go_upto_region 28 with fail
                  refine wp_region_noPanic ?_
                  refine wp_region_held_drew (S := (fun w' => w'.cell? ⟨sb, x, none⟩ = some (.pointer (some ⟨G x, 0, none⟩)) ∧ w'.cell? ⟨sb, y, none⟩ = some (.pointer (some ⟨G y, 0, none⟩)))) (by kernel_rfl) ?_ (fun hHeld => ?_)
                  · exact ⟨HTy.out.cells x hx3, HTy.out.cells y (by omega)⟩
                  refine held_take (i := 0) (d := 99) (v := ?_) rfl rfl (by kernel_rfl) (by kernel_rfl) (by kernel_rfl) (fun _ _ _ h => h) (Or.inl ⟨by rfl, ?_⟩) hHeld ?_
                  rotate_left
                  · (intro w hSw; (try dsimp only at hSw); go_simp; all_goals (with_reducible rfl))
                  try simp only [Act.put, List.setIfInBounds_toArray, List.set_cons_zero, List.set_cons_succ]
                  refine held_take (i := 1) (d := 100) (v := ?_) rfl rfl (by kernel_rfl) (by kernel_rfl) (by kernel_rfl) (fun _ _ _ h => h) (Or.inl ⟨by rfl, ?_⟩) hHeld ?_
                  rotate_left
                  · (intro w hSw; (try dsimp only at hSw); go_simp; all_goals (with_reducible rfl))
                  try simp only [Act.put, List.setIfInBounds_toArray, List.set_cons_zero, List.set_cons_succ]
                  refine held_take (i := 2) (d := 101) (v := ?_) rfl rfl (by kernel_rfl) (by kernel_rfl) (by kernel_rfl) (fun _ _ _ h => h) (Or.inl ⟨by rfl, ?_⟩) hHeld ?_
                  rotate_left
                  · (intro w hSw; (try dsimp only at hSw); go_simp; all_goals (with_reducible rfl))
                  try simp only [Act.put, List.setIfInBounds_toArray, List.set_cons_zero, List.set_cons_succ]
                  refine held_take (i := 3) (d := 102) (v := ?_) rfl rfl (by kernel_rfl) (by kernel_rfl) (by kernel_rfl) (fun _ _ _ h => h) (Or.inl ⟨by rfl, ?_⟩) hHeld ?_
                  rotate_left
                  · (intro w hSw; (try dsimp only at hSw); go_simp; all_goals (with_reducible rfl))
                  try simp only [Act.put, List.setIfInBounds_toArray, List.set_cons_zero, List.set_cons_succ]
                  refine held_take (i := 4) (d := 103) (v := ?_) rfl rfl (by kernel_rfl) (by kernel_rfl) (by kernel_rfl) (fun _ _ _ h => h) (Or.inl ⟨by rfl, ?_⟩) hHeld ?_
                  rotate_left
                  · (intro w hSw; (try dsimp only at hSw); go_simp; all_goals (with_reducible rfl))
                  try simp only [Act.put, List.setIfInBounds_toArray, List.set_cons_zero, List.set_cons_succ]
                  refine held_take (i := 5) (d := 104) (v := ?_) rfl rfl (by kernel_rfl) (by kernel_rfl) (by kernel_rfl) (fun _ _ _ h => h) (Or.inl ⟨by rfl, ?_⟩) hHeld ?_
                  rotate_left
                  · (intro w hSw; (try dsimp only at hSw); go_simp; all_goals (with_reducible rfl))
                  try simp only [Act.put, List.setIfInBounds_toArray, List.set_cons_zero, List.set_cons_succ]
                  refine held_take (i := 6) (d := 105) (v := ?_) rfl rfl (by kernel_rfl) (by kernel_rfl) (by kernel_rfl) (fun _ _ _ h => h) (Or.inl ⟨by rfl, ?_⟩) hHeld ?_
                  rotate_left
                  · (intro w hSw; (try dsimp only at hSw); go_simp; all_goals (with_reducible rfl))
                  try simp only [Act.put, List.setIfInBounds_toArray, List.set_cons_zero, List.set_cons_succ]
                  refine held_take (i := 7) (d := 106) (v := ?_) rfl rfl (by kernel_rfl) (by kernel_rfl) (by kernel_rfl) (fun _ _ _ h => h) (Or.inl ⟨by rfl, ?_⟩) hHeld ?_
                  rotate_left
                  · (intro w hSw; (try dsimp only at hSw); go_simp; all_goals (with_reducible rfl))
                  try simp only [Act.put, List.setIfInBounds_toArray, List.set_cons_zero, List.set_cons_succ]
                  refine wpAnyH_ready (rs := [8]) (by kernel_rfl) (by simp) ?_
                  refine AllReadyH.cons rfl (fun K hK => ?_) AllReadyH.nil
                  go_simp
                  refine HMT.out.mono ?_
                  rintro e wz ⟨rfl, hbz⟩
                  have HTz : Hid (Three wz p sb G Bf Xf) := (HTy.out.later (Below.refl _ _).drew).later hbz
                  have HWz : Hid (Below p w wz) := HWy.out.drew.trans (hbz.mono (by simp only [World.size_drew]; exact HTy.out.lt))
                  clear hbz HMT
                  go_wp2_with fail
                  refine hK.out _ _ ?_ (fun hHeld => ?_)
                  · exact ⟨HTz.out.cells x hx3, HTz.out.cells y (by omega)⟩
                  clear hK K
                  try simp only [Act.put, List.setIfInBounds_toArray, List.set_cons_zero, List.set_cons_succ]
                  refine held_take (i := 9) (d := 108) (v := ?_) rfl rfl (by kernel_rfl) (by kernel_rfl) (by kernel_rfl) (fun _ _ _ h => h) (Or.inl ⟨by rfl, ?_⟩) hHeld ?_
                  rotate_left
                  · (intro w hSw; (try dsimp only at hSw); go_simp; all_goals (with_reducible rfl))
                  try simp only [Act.put, List.setIfInBounds_toArray, List.set_cons_zero, List.set_cons_succ]
                  refine wpAnyH_done (by kernel_rfl) ?_ _
                  refine NoPanic.normal ?_
                  go_wp2
                  go_roundw
                  case rel => exact ⟨y + 1, by go_num, by omega, HTz, HWz⟩
                  case measure => simp [intOf]; omega
                · go_wp2
                  go_roundw
                  case rel => exact ⟨x + 1, by go_num, by omega, HTy, HWy⟩
                  case measure => simp [intOf]; omega
            · go_wp2
              go_roundw
              case rel => exact ⟨k + 1, ld, ep, sq, by go_num, by omega, by omega, by first | rfl | go_num, by omega, by first | rfl | go_num, by omega, by omega, by first | rfl | go_num, by omega, by omega, ⟨Bf, Xf, HTx.out, HIf.out, HXf.out⟩, HWx⟩
              case measure => simp [intOf]; omega
        · have hz2 : (((a : Nat) : Int) != (ld : Nat)) = true := by simp; omega
          go_wp2_with fail
          refine (HQA.out _).mono ?_
          rintro e wz ⟨rfl, hwz⟩
          subst wz
          clear m1
          go_upto_region 18 with fail
          obtain ⟨mv, hmv⟩ : ∃ a : Nat, modI mm 5 = (a : Nat) := ⟨(modI mm 5).toNat, by have := modI_in mm 5 (by omega); omega⟩
          have hmv5 : mv < 5 := by have := modI_in mm 5 (by omega); omega
          have HMM : Hid (∀ w, Calls Try.prog 25 #[.int .i64 mm, .int .i64 5] w fun e w' => e = .returned (.int .i64 (mv : Nat)) ∧ w' = w) := fun w => by rw [← hmv]; exact mod_any mm 5 w (by omega) (by omega)
          clear hmv
          have HE : Hid (∀ w, Three w p sb G B X → Calls Try.prog 14 #[.pointer (some ⟨G bb, 0, none⟩), .int .i64 (pv : Nat)] w fun e w' => e = .returned (.int .u64 (epoL (X bb) (pv : Nat))) ∧ w' = w) := fun w hw => by
            have := epoch_any (G bb) (B bb) (flatL (X bb)) (pv : Nat) w (hw.lg bb hb3) (by rw [flatL_length]; have := HX.out bb; omega)
            rw [epL_flat] at this
            exact this
          have HFR : Hid (∀ w, Three w p sb G B X → Calls Try.prog 12 #[.pointer (some ⟨G bb, 0, none⟩), .int .i64 (pv : Nat), .int .i64 (IntKind.i64.wrap (1 + (mv : Int)))] w (Told w (flatL (((X bb).drop pv).take (1 + mv))))) := fun w hw => by
            have := from_any (G bb) (B bb) (flatL (X bb)) pv (1 + mv) w (hw.lg bb hb3) (by rw [flatL_length]; have := HX.out bb; omega) (by rw [flatL_length, HLB.out]; exact hpl) (by omega) (by omega)
            rw [told_flat, show ((1 + mv : Nat) : Int) = 1 + (mv : Nat) by omega] at this
            rw [show IntKind.i64.wrap (1 + (mv : Int)) = 1 + (mv : Nat) by rw [IntKind.wrap_i64]; omega]
            exact this
          have hni := new_inv HI.out a bb pv (1 + mv) hal (by rw [HLB.out]; exact hpl)
          have HNI : Hid (Inv ep ld (upd X a (newLog (X a) (((X bb).drop pv).take (1 + mv)) pv (epoL (X bb) pv)))) := hni.1
          have HNX : Hid ((newLog (X a) (((X bb).drop pv).take (1 + mv)) pv (epoL (X bb) pv)).length ≤ k) := hni.2 k (HX.out a) (HX.out bb)
          have HNL : Hid ((((X bb).drop pv).take (1 + mv)).length ≤ 400 ∧ (newLog (X a) (((X bb).drop pv).take (1 + mv)) pv (epoL (X bb) pv)).Pairwise (fun a b => a.1 ≤ b.1) ∧ (∀ e ∈ newLog (X a) (((X bb).drop pv).take (1 + mv)) pv (epoL (X bb) pv), 1 ≤ e.1 ∧ 1 ≤ e.2) ∧ (newLog (X a) (((X bb).drop pv).take (1 + mv)) pv (epoL (X bb) pv)).length ≤ 400) := by
            have g1 := HNI.out.rise a
            have g2 := HNI.out.ok a
            rw [upd_same] at g1 g2
            refine ⟨by rw [List.length_take]; omega, g1, fun e he => ⟨(g2 e he).1, (g2 e he).2.2⟩, by have := HNX.out; omega⟩
          clear hni
          refine wp_region_noPanic ?_
          refine wp_region_held_drew (S := (fun w' => w'.cell? ⟨px, 4, none⟩ = some (.int .i64 mm))) (by kernel_rfl) ?_ (fun hHeld => ?_)
          · exact cell_of_heap HM3.out rfl
          have HT3' : Hid (Three y3.drew p sb G B X) := HT3.out.later (Below.refl _ _).drew
          have HW3' : Hid (Below p w y3.drew) := HW3.out.drew
          have HM3' : Hid (y3.drew.heap[px]? = some (.cells #[.int .i64 4, .int .i64 ma, .int .i64 mb, .int .i64 mp, .int .i64 mm] 68)) := HM3.out
          clear HT3 HW3 HM3
          generalize y3.drew = y3 at *
          have HT3 := HT3'
          have HW3 := HW3'
          have HM3 := HM3'
          clear HT3' HW3' HM3'
          refine held_take (i := 0) (d := 70) (v := ?_) rfl rfl (by kernel_rfl) (by kernel_rfl) (by kernel_rfl) (fun _ _ _ h => h) (Or.inl ⟨by rfl, ?_⟩) hHeld ?_
          rotate_left
          · (intro w hSw; (try dsimp only at hSw); go_simp; all_goals (with_reducible rfl))
          try simp only [Act.put, List.setIfInBounds_toArray, List.set_cons_zero, List.set_cons_succ]
          refine held_take (i := 1) (d := 71) (v := ?_) rfl rfl (by kernel_rfl) (by kernel_rfl) (by kernel_rfl) (fun _ _ _ h => h) (Or.inl ⟨by rfl, ?_⟩) hHeld ?_
          rotate_left
          · (intro w hSw; (try dsimp only at hSw); go_simp; all_goals (with_reducible rfl))
          try simp only [Act.put, List.setIfInBounds_toArray, List.set_cons_zero, List.set_cons_succ]
          refine held_take (i := 2) (d := 72) (v := ?_) rfl rfl (by kernel_rfl) (by kernel_rfl) (by kernel_rfl) (fun _ _ _ h => h) (Or.inl ⟨by rfl, ?_⟩) hHeld ?_
          rotate_left
          · (intro w hSw; (try dsimp only at hSw); go_simp; all_goals (with_reducible rfl))
          try simp only [Act.put, List.setIfInBounds_toArray, List.set_cons_zero, List.set_cons_succ]
          refine held_take (i := 3) (d := 73) (v := ?_) rfl rfl (by kernel_rfl) (by kernel_rfl) (by kernel_rfl) (fun _ _ _ h => h) (Or.inl ⟨by rfl, ?_⟩) hHeld ?_
          rotate_left
          · (intro w hSw; (try dsimp only at hSw); go_simp; all_goals (with_reducible rfl))
          try simp only [Act.put, List.setIfInBounds_toArray, List.set_cons_zero, List.set_cons_succ]
          refine held_take (i := 5) (d := 75) (v := ?_) rfl rfl (by kernel_rfl) (by kernel_rfl) (by kernel_rfl) (fun _ _ _ h => h) (Or.inl ⟨by rfl, ?_⟩) hHeld ?_
          rotate_left
          · (intro w hSw; (try dsimp only at hSw); go_simp; all_goals (with_reducible rfl))
          try simp only [Act.put, List.setIfInBounds_toArray, List.set_cons_zero, List.set_cons_succ]
          refine held_take (i := 6) (d := 76) (v := ?_) rfl rfl (by kernel_rfl) (by kernel_rfl) (by kernel_rfl) (fun _ _ _ h => h) (Or.inl ⟨by rfl, ?_⟩) hHeld ?_
          rotate_left
          · (intro w hSw; (try dsimp only at hSw); go_simp; all_goals (with_reducible rfl))
          try simp only [Act.put, List.setIfInBounds_toArray, List.set_cons_zero, List.set_cons_succ]
          refine held_take (i := 7) (d := 77) (v := ?_) rfl rfl (by kernel_rfl) (by kernel_rfl) (by kernel_rfl) (fun _ _ _ h => h) (Or.inl ⟨by rfl, ?_⟩) hHeld ?_
          rotate_left
          · (intro w hSw; (try dsimp only at hSw); go_simp; all_goals (with_reducible rfl))
          try simp only [Act.put, List.setIfInBounds_toArray, List.set_cons_zero, List.set_cons_succ]
          refine held_take (i := 8) (d := 78) (v := ?_) rfl rfl (by kernel_rfl) (by kernel_rfl) (by kernel_rfl) (fun _ _ _ h => h) (Or.inl ⟨by rfl, ?_⟩) hHeld ?_
          rotate_left
          · (intro w hSw; (try dsimp only at hSw); go_simp; all_goals (with_reducible rfl))
          try simp only [Act.put, List.setIfInBounds_toArray, List.set_cons_zero, List.set_cons_succ]
          refine wpAnyH_ready (rs := [4]) (by kernel_rfl) (by simp) ?_
          refine AllReadyH.cons rfl (fun K hK => ?_) AllReadyH.nil
          go_simp
          refine (HE.out _ (by first | exact HT3.out | exact HT4.out)).mono ?_
          rintro e wz ⟨rfl, hwz⟩
          subst wz
          go_wp2_with fail
          refine hK.out _ _ ?_ (fun hHeld => ?_)
          · exact cell_of_heap HM3.out rfl
          clear hK K
          try simp only [Act.put, List.setIfInBounds_toArray, List.set_cons_zero, List.set_cons_succ]
          refine wpAnyH_ready (rs := [9]) (by kernel_rfl) (by simp) ?_
          refine AllReadyH.cons rfl (fun K hK => ?_) AllReadyH.nil
          go_simp
          refine (HMM.out _).mono ?_
          rintro e wz ⟨rfl, hwz⟩
          subst wz
          go_wp2_with fail
          refine hK.out _ _ ?_ (fun hHeld => ?_)
          · exact cell_of_heap HM3.out rfl
          clear hK K
          try simp only [Act.put, List.setIfInBounds_toArray, List.set_cons_zero, List.set_cons_succ]
          refine held_take (i := 10) (d := 80) (v := ?_) rfl rfl (by kernel_rfl) (by kernel_rfl) (by kernel_rfl) (fun _ _ _ h => h) (Or.inl ⟨by rfl, ?_⟩) hHeld ?_
          rotate_left
          · (intro w hSw; (try dsimp only at hSw); go_simp; all_goals (with_reducible rfl))
          try simp only [Act.put, List.setIfInBounds_toArray, List.set_cons_zero, List.set_cons_succ]
          refine wpAnyH_ready (rs := [11]) (by kernel_rfl) (by simp) ?_
          refine AllReadyH.cons rfl (fun K hK => ?_) AllReadyH.nil
          go_simp
          refine (HFR.out _ HT3.out).mono ?_
          rintro e y4 ⟨Q, v, rfl, hq1, hrel, -, hb4⟩
          obtain rfl := hrel.flat
          clear hrel
          obtain ⟨pa, pn, pc, rfl⟩ := owns_slice hq1
          have HT4 : Hid (Three y4 p sb G B X) := HT3.out.later hb4
          have HM4 : Hid (y4.heap[px]? = some (.cells #[.int .i64 4, .int .i64 ma, .int .i64 mb, .int .i64 mp, .int .i64 mm] 68)) := keepc hb4 HM3.out
          have HW4 : Hid (Below p w y4) := HW3.out.trans (hb4.mono HT3.out.lt)
          have HQ4 : Hid (y4.ownsRow 0 45 10 (.slice pa pn pc) (flatL (((X bb).drop pv).take (1 + mv))).length ((flatL (((X bb).drop pv).take (1 + mv))).flatMap Ev.cells) ∧ ∀ k, (Value.slice pa pn pc).ownBlock = some k → k ≠ G a ∧ some k ≠ B a) := by
            refine ⟨owns_mono hq1 (Nat.zero_le _), fun k hk => ?_⟩
            have hge := owns_ge hq1 k hk
            have l1 := (HT3.out.lg a ha3).lt
            refine ⟨by omega, fun e => ?_⟩
            have l2 := tag_lt ((HT3.out.lg a ha3).tags.2 k e.symm)
            omega
          clear hq1 hb4
          go_wp2_with fail
          refine hK.out _ _ ?_ (fun hHeld => ?_)
          · exact cell_of_heap HM4.out rfl
          clear hK K
          try simp only [Act.put, List.setIfInBounds_toArray, List.set_cons_zero, List.set_cons_succ]
          refine wpAnyH_ready (rs := [12]) (by kernel_rfl) (by simp) ?_
          refine AllReadyH.cons rfl (fun K hK => ?_) AllReadyH.nil
          go_simp
          refine (take_any (G a) (B a) (X a) pa pn pc (((X bb).drop pv).take (1 + mv)) pv (epoL (X bb) pv) y4 (HT4.out.lg a ha3) (by have := HX.out a; omega) HQ4.out.1 HQ4.out.2 HNL.out.1 HNL.out.2 (by omega)).mono ?_
          rintro e y5 ⟨rfl, ob5, hl5, hk5, ho5⟩
          obtain ⟨Bf, hT5, hb5⟩ := HT4.out.set ha3 hl5 hk5 ho5
          have HT5 : Hid (∃ Bf, Three y5 p sb G Bf (upd X a (newLog (X a) (((X bb).drop pv).take (1 + mv)) pv (epoL (X bb) pv))) ∧ Below p w y5) := ⟨Bf, hT5, HW4.out.trans hb5⟩
          have HM5 : Hid (y5.heap[px]? = some (.cells #[.int .i64 4, .int .i64 ma, .int .i64 mb, .int .i64 mp, .int .i64 mm] 68)) := by
            have t0 := tagOf_heap HM4.out
            obtain ⟨t1, t2⟩ := (HT4.out.lg a ha3).tags
            exact (hk5.block px (Array.getElem?_eq_some_iff.1 HM4.out).1 (fun e => by rw [e, t1] at t0; cases t0) (fun e => by rw [t2 px e.symm] at t0; cases t0)).trans HM4.out
          clear hl5 hk5 ho5 hT5 hb5
          go_wp2_with fail
          refine hK.out _ _ ?_ (fun hHeld => ?_)
          · exact cell_of_heap HM5.out rfl
          clear hK K
          try simp only [Act.put, List.setIfInBounds_toArray, List.set_cons_zero, List.set_cons_succ]
          refine wpAnyH_done (by kernel_rfl) ?_ _
          refine NoPanic.normal ?_
          obtain ⟨Bf, hTc, hWc⟩ := HT5.out
          obtain ⟨Xf, hXf⟩ : ∃ Xf, Xf = upd X a (newLog (X a) (((X bb).drop pv).take (1 + mv)) pv (epoL (X bb) pv)) := ⟨_, rfl⟩
          rw [← hXf] at hTc
          have HTf : Hid (Three y5 p sb G Bf Xf) := hTc
          have HWf : Hid (Below p w y5) := hWc
          have HIf : Hid (Inv ep ld Xf) := by rw [hXf]; exact HNI.out
          have HXf : Hid (∀ x, (Xf x).length ≤ k + 1) := fun x => by
            rw [hXf]
            unfold upd
            split
            · have := HNX.out; omega
            · have := HX.out x; omega
          clear HT5 hTc hWc hXf HT3 HW3 HM3 HT4 HW4 HM4 HQ4 HM5 HNI HNX HNL HFR HE HMM HI HX
          go_wp2
          go_loopw [12] (fun xv wx => ∃ x : Nat, xv = .int .i64 (x : Nat) ∧ x ≤ 3 ∧ Hid (Three wx p sb G Bf Xf) ∧ Hid (Below p w wx)) (fun xv _ => 3 - (intOf xv).toNat)
          case atStart => exact ⟨0, rfl, by omega, HTf, HWf⟩
          case round =>
            obtain ⟨x, rfl, hx, HTx, HWx⟩ := hrel
            by_cases hx3 : x < 3
            · have jx : ((x : Nat) : Int) < 3 := by omega
              go_wp2
              go_loopw [13] (fun yv wy => ∃ y : Nat, yv = .int .i64 (y : Nat) ∧ y ≤ x ∧ Hid (Three wy p sb G Bf Xf) ∧ Hid (Below p w wy)) (fun yv _ => x - (intOf yv).toNat)
              case atStart => exact ⟨0, rfl, by omega, HTx, HWx⟩
              case round =>
                obtain ⟨y, rfl, hy, HTy, HWy⟩ := hrel
                by_cases hyx : y < x
                · have jyx : ((y : Nat) : Int) < (x : Nat) := by omega
                  have jy : ((y : Nat) : Int) < 3 := by omega
                  have ix : (0 : Int) ≤ (x : Int) := by omega
                  have iy : (0 : Int) ≤ (y : Int) := by omega
                  have hmt := matched_any (G x) (G y) (Bf x) (Bf y) (Xf x) (Xf y) wr.drew ((HTy.out.lg x hx3).later (Below.refl _ _).drew) ((HTy.out.lg y (by omega)).later (Below.refl _ _).drew) (HIf.out.mat x y) (by have := HXf.out x; omega) (by have := HXf.out y; omega)
                  have HMT : Hid (Calls Try.prog 29 #[.pointer (some ⟨G x, 0, none⟩), .pointer (some ⟨G y, 0, none⟩)] wr.drew fun e w' => e = .returned (.bool true) ∧ Below wr.drew.heap.size wr.drew w') := hmt
                  clear hmt
                  go_upto_region 28 with fail
                  refine wp_region_noPanic ?_
                  refine wp_region_held_drew (S := (fun w' => w'.cell? ⟨sb, x, none⟩ = some (.pointer (some ⟨G x, 0, none⟩)) ∧ w'.cell? ⟨sb, y, none⟩ = some (.pointer (some ⟨G y, 0, none⟩)))) (by kernel_rfl) ?_ (fun hHeld => ?_)
                  · exact ⟨HTy.out.cells x hx3, HTy.out.cells y (by omega)⟩
                  refine held_take (i := 0) (d := 99) (v := ?_) rfl rfl (by kernel_rfl) (by kernel_rfl) (by kernel_rfl) (fun _ _ _ h => h) (Or.inl ⟨by rfl, ?_⟩) hHeld ?_
                  rotate_left
                  · (intro w hSw; (try dsimp only at hSw); go_simp; all_goals (with_reducible rfl))
                  try simp only [Act.put, List.setIfInBounds_toArray, List.set_cons_zero, List.set_cons_succ]
                  refine held_take (i := 1) (d := 100) (v := ?_) rfl rfl (by kernel_rfl) (by kernel_rfl) (by kernel_rfl) (fun _ _ _ h => h) (Or.inl ⟨by rfl, ?_⟩) hHeld ?_
                  rotate_left
                  · (intro w hSw; (try dsimp only at hSw); go_simp; all_goals (with_reducible rfl))
                  try simp only [Act.put, List.setIfInBounds_toArray, List.set_cons_zero, List.set_cons_succ]
                  refine held_take (i := 2) (d := 101) (v := ?_) rfl rfl (by kernel_rfl) (by kernel_rfl) (by kernel_rfl) (fun _ _ _ h => h) (Or.inl ⟨by rfl, ?_⟩) hHeld ?_
                  rotate_left
                  · (intro w hSw; (try dsimp only at hSw); go_simp; all_goals (with_reducible rfl))
                  try simp only [Act.put, List.setIfInBounds_toArray, List.set_cons_zero, List.set_cons_succ]
                  refine held_take (i := 3) (d := 102) (v := ?_) rfl rfl (by kernel_rfl) (by kernel_rfl) (by kernel_rfl) (fun _ _ _ h => h) (Or.inl ⟨by rfl, ?_⟩) hHeld ?_
                  rotate_left
                  · (intro w hSw; (try dsimp only at hSw); go_simp; all_goals (with_reducible rfl))
                  try simp only [Act.put, List.setIfInBounds_toArray, List.set_cons_zero, List.set_cons_succ]
                  refine held_take (i := 4) (d := 103) (v := ?_) rfl rfl (by kernel_rfl) (by kernel_rfl) (by kernel_rfl) (fun _ _ _ h => h) (Or.inl ⟨by rfl, ?_⟩) hHeld ?_
                  rotate_left
                  · (intro w hSw; (try dsimp only at hSw); go_simp; all_goals (with_reducible rfl))
                  try simp only [Act.put, List.setIfInBounds_toArray, List.set_cons_zero, List.set_cons_succ]
                  refine held_take (i := 5) (d := 104) (v := ?_) rfl rfl (by kernel_rfl) (by kernel_rfl) (by kernel_rfl) (fun _ _ _ h => h) (Or.inl ⟨by rfl, ?_⟩) hHeld ?_
                  rotate_left
                  · (intro w hSw; (try dsimp only at hSw); go_simp; all_goals (with_reducible rfl))
                  try simp only [Act.put, List.setIfInBounds_toArray, List.set_cons_zero, List.set_cons_succ]
                  refine held_take (i := 6) (d := 105) (v := ?_) rfl rfl (by kernel_rfl) (by kernel_rfl) (by kernel_rfl) (fun _ _ _ h => h) (Or.inl ⟨by rfl, ?_⟩) hHeld ?_
                  rotate_left
                  · (intro w hSw; (try dsimp only at hSw); go_simp; all_goals (with_reducible rfl))
                  try simp only [Act.put, List.setIfInBounds_toArray, List.set_cons_zero, List.set_cons_succ]
                  refine held_take (i := 7) (d := 106) (v := ?_) rfl rfl (by kernel_rfl) (by kernel_rfl) (by kernel_rfl) (fun _ _ _ h => h) (Or.inl ⟨by rfl, ?_⟩) hHeld ?_
                  rotate_left
                  · (intro w hSw; (try dsimp only at hSw); go_simp; all_goals (with_reducible rfl))
                  try simp only [Act.put, List.setIfInBounds_toArray, List.set_cons_zero, List.set_cons_succ]
                  refine wpAnyH_ready (rs := [8]) (by kernel_rfl) (by simp) ?_
                  refine AllReadyH.cons rfl (fun K hK => ?_) AllReadyH.nil
                  go_simp
                  refine HMT.out.mono ?_
                  rintro e wz ⟨rfl, hbz⟩
                  have HTz : Hid (Three wz p sb G Bf Xf) := (HTy.out.later (Below.refl _ _).drew).later hbz
                  have HWz : Hid (Below p w wz) := HWy.out.drew.trans (hbz.mono (by simp only [World.size_drew]; exact HTy.out.lt))
                  clear hbz HMT
                  go_wp2_with fail
                  refine hK.out _ _ ?_ (fun hHeld => ?_)
                  · exact ⟨HTz.out.cells x hx3, HTz.out.cells y (by omega)⟩
                  clear hK K
                  try simp only [Act.put, List.setIfInBounds_toArray, List.set_cons_zero, List.set_cons_succ]
                  refine held_take (i := 9) (d := 108) (v := ?_) rfl rfl (by kernel_rfl) (by kernel_rfl) (by kernel_rfl) (fun _ _ _ h => h) (Or.inl ⟨by rfl, ?_⟩) hHeld ?_
                  rotate_left
                  · (intro w hSw; (try dsimp only at hSw); go_simp; all_goals (with_reducible rfl))
                  try simp only [Act.put, List.setIfInBounds_toArray, List.set_cons_zero, List.set_cons_succ]
                  refine wpAnyH_done (by kernel_rfl) ?_ _
                  refine NoPanic.normal ?_
                  go_wp2
                  go_roundw
                  case rel => exact ⟨y + 1, by go_num, by omega, HTz, HWz⟩
                  case measure => simp [intOf]; omega
                · go_wp2
                  go_roundw
                  case rel => exact ⟨x + 1, by go_num, by omega, HTy, HWy⟩
                  case measure => simp [intOf]; omega
            · go_wp2
              go_roundw
              case rel => exact ⟨k + 1, ld, ep, sq, by go_num, by omega, by omega, by first | rfl | go_num, by omega, by first | rfl | go_num, by omega, by omega, by first | rfl | go_num, by omega, by omega, ⟨Bf, Xf, HTx.out, HIf.out, HXf.out⟩, HWx⟩
              case measure => simp [intOf]; omega
      by_cases k5 : kd = 5
      · subst k5
        obtain ⟨Bf, Xf, HTf, HIf, HXf, HWf⟩ : ∃ Bf Xf, Hid (Three y2 p sb G Bf Xf) ∧ Hid (Inv (ep + 1) a Xf) ∧ Hid (∀ x, (Xf x).length ≤ k + 1) ∧ Hid (Below p w y2) := ⟨B, X, HT2, HI.out.epoch a ha3, fun x => by have := HX.out x; omega, HW2⟩
        clear HI HX
        have m1 : y2.cell? ⟨px, 1, none⟩ = some (.int .i64 ma) := cell_of_heap HM2.out rfl
        clear HT2 HW2 HM2
        go_wp2_with fail
        refine (HQA.out _).mono ?_
        rintro e wz ⟨rfl, hwz⟩
        subst wz
        clear m1
        go_wp2
        go_loopw [12] (fun xv wx => ∃ x : Nat, xv = .int .i64 (x : Nat) ∧ x ≤ 3 ∧ Hid (Three wx p sb G Bf Xf) ∧ Hid (Below p w wx)) (fun xv _ => 3 - (intOf xv).toNat)
        case atStart => exact ⟨0, rfl, by omega, HTf, HWf⟩
        case round =>
          obtain ⟨x, rfl, hx, HTx, HWx⟩ := hrel
          by_cases hx3 : x < 3
          · have jx : ((x : Nat) : Int) < 3 := by omega
            go_wp2
            go_loopw [13] (fun yv wy => ∃ y : Nat, yv = .int .i64 (y : Nat) ∧ y ≤ x ∧ Hid (Three wy p sb G Bf Xf) ∧ Hid (Below p w wy)) (fun yv _ => x - (intOf yv).toNat)
            case atStart => exact ⟨0, rfl, by omega, HTx, HWx⟩
            case round =>
              obtain ⟨y, rfl, hy, HTy, HWy⟩ := hrel
              by_cases hyx : y < x
              · have jyx : ((y : Nat) : Int) < (x : Nat) := by omega
                have jy : ((y : Nat) : Int) < 3 := by omega
                have ix : (0 : Int) ≤ (x : Int) := by omega
                have iy : (0 : Int) ≤ (y : Int) := by omega
                have hmt := matched_any (G x) (G y) (Bf x) (Bf y) (Xf x) (Xf y) wr.drew ((HTy.out.lg x hx3).later (Below.refl _ _).drew) ((HTy.out.lg y (by omega)).later (Below.refl _ _).drew) (HIf.out.mat x y) (by have := HXf.out x; omega) (by have := HXf.out y; omega)
                have HMT : Hid (Calls Try.prog 29 #[.pointer (some ⟨G x, 0, none⟩), .pointer (some ⟨G y, 0, none⟩)] wr.drew fun e w' => e = .returned (.bool true) ∧ Below wr.drew.heap.size wr.drew w') := hmt
                clear hmt
                go_upto_region 28 with fail
                refine wp_region_noPanic ?_
                refine wp_region_held_drew (S := (fun w' => w'.cell? ⟨sb, x, none⟩ = some (.pointer (some ⟨G x, 0, none⟩)) ∧ w'.cell? ⟨sb, y, none⟩ = some (.pointer (some ⟨G y, 0, none⟩)))) (by kernel_rfl) ?_ (fun hHeld => ?_)
                · exact ⟨HTy.out.cells x hx3, HTy.out.cells y (by omega)⟩
                refine held_take (i := 0) (d := 99) (v := ?_) rfl rfl (by kernel_rfl) (by kernel_rfl) (by kernel_rfl) (fun _ _ _ h => h) (Or.inl ⟨by rfl, ?_⟩) hHeld ?_
                rotate_left
                · (intro w hSw; (try dsimp only at hSw); go_simp; all_goals (with_reducible rfl))
                try simp only [Act.put, List.setIfInBounds_toArray, List.set_cons_zero, List.set_cons_succ]
                refine held_take (i := 1) (d := 100) (v := ?_) rfl rfl (by kernel_rfl) (by kernel_rfl) (by kernel_rfl) (fun _ _ _ h => h) (Or.inl ⟨by rfl, ?_⟩) hHeld ?_
                rotate_left
                · (intro w hSw; (try dsimp only at hSw); go_simp; all_goals (with_reducible rfl))
                try simp only [Act.put, List.setIfInBounds_toArray, List.set_cons_zero, List.set_cons_succ]
                refine held_take (i := 2) (d := 101) (v := ?_) rfl rfl (by kernel_rfl) (by kernel_rfl) (by kernel_rfl) (fun _ _ _ h => h) (Or.inl ⟨by rfl, ?_⟩) hHeld ?_
                rotate_left
                · (intro w hSw; (try dsimp only at hSw); go_simp; all_goals (with_reducible rfl))
                try simp only [Act.put, List.setIfInBounds_toArray, List.set_cons_zero, List.set_cons_succ]
                refine held_take (i := 3) (d := 102) (v := ?_) rfl rfl (by kernel_rfl) (by kernel_rfl) (by kernel_rfl) (fun _ _ _ h => h) (Or.inl ⟨by rfl, ?_⟩) hHeld ?_
                rotate_left
                · (intro w hSw; (try dsimp only at hSw); go_simp; all_goals (with_reducible rfl))
                try simp only [Act.put, List.setIfInBounds_toArray, List.set_cons_zero, List.set_cons_succ]
                refine held_take (i := 4) (d := 103) (v := ?_) rfl rfl (by kernel_rfl) (by kernel_rfl) (by kernel_rfl) (fun _ _ _ h => h) (Or.inl ⟨by rfl, ?_⟩) hHeld ?_
                rotate_left
                · (intro w hSw; (try dsimp only at hSw); go_simp; all_goals (with_reducible rfl))
                try simp only [Act.put, List.setIfInBounds_toArray, List.set_cons_zero, List.set_cons_succ]
                refine held_take (i := 5) (d := 104) (v := ?_) rfl rfl (by kernel_rfl) (by kernel_rfl) (by kernel_rfl) (fun _ _ _ h => h) (Or.inl ⟨by rfl, ?_⟩) hHeld ?_
                rotate_left
                · (intro w hSw; (try dsimp only at hSw); go_simp; all_goals (with_reducible rfl))
                try simp only [Act.put, List.setIfInBounds_toArray, List.set_cons_zero, List.set_cons_succ]
                refine held_take (i := 6) (d := 105) (v := ?_) rfl rfl (by kernel_rfl) (by kernel_rfl) (by kernel_rfl) (fun _ _ _ h => h) (Or.inl ⟨by rfl, ?_⟩) hHeld ?_
                rotate_left
                · (intro w hSw; (try dsimp only at hSw); go_simp; all_goals (with_reducible rfl))
                try simp only [Act.put, List.setIfInBounds_toArray, List.set_cons_zero, List.set_cons_succ]
                refine held_take (i := 7) (d := 106) (v := ?_) rfl rfl (by kernel_rfl) (by kernel_rfl) (by kernel_rfl) (fun _ _ _ h => h) (Or.inl ⟨by rfl, ?_⟩) hHeld ?_
                rotate_left
                · (intro w hSw; (try dsimp only at hSw); go_simp; all_goals (with_reducible rfl))
                try simp only [Act.put, List.setIfInBounds_toArray, List.set_cons_zero, List.set_cons_succ]
                refine wpAnyH_ready (rs := [8]) (by kernel_rfl) (by simp) ?_
                refine AllReadyH.cons rfl (fun K hK => ?_) AllReadyH.nil
                go_simp
                refine HMT.out.mono ?_
                rintro e wz ⟨rfl, hbz⟩
                have HTz : Hid (Three wz p sb G Bf Xf) := (HTy.out.later (Below.refl _ _).drew).later hbz
                have HWz : Hid (Below p w wz) := HWy.out.drew.trans (hbz.mono (by simp only [World.size_drew]; exact HTy.out.lt))
                clear hbz HMT
                go_wp2_with fail
                refine hK.out _ _ ?_ (fun hHeld => ?_)
                · exact ⟨HTz.out.cells x hx3, HTz.out.cells y (by omega)⟩
                clear hK K
                try simp only [Act.put, List.setIfInBounds_toArray, List.set_cons_zero, List.set_cons_succ]
                refine held_take (i := 9) (d := 108) (v := ?_) rfl rfl (by kernel_rfl) (by kernel_rfl) (by kernel_rfl) (fun _ _ _ h => h) (Or.inl ⟨by rfl, ?_⟩) hHeld ?_
                rotate_left
                · (intro w hSw; (try dsimp only at hSw); go_simp; all_goals (with_reducible rfl))
                try simp only [Act.put, List.setIfInBounds_toArray, List.set_cons_zero, List.set_cons_succ]
                refine wpAnyH_done (by kernel_rfl) ?_ _
                refine NoPanic.normal ?_
                go_wp2
                go_roundw
                case rel => exact ⟨y + 1, by go_num, by omega, HTz, HWz⟩
                case measure => simp [intOf]; omega
              · go_wp2
                go_roundw
                case rel => exact ⟨x + 1, by go_num, by omega, HTy, HWy⟩
                case measure => simp [intOf]; omega
          · go_wp2
            go_roundw
            case rel => exact ⟨k + 1, a, (ep + 1), sq, by go_num, by omega, by omega, by first | rfl | go_num, by omega, by first | rfl | go_num, by omega, by omega, by first | rfl | go_num, by omega, by omega, ⟨Bf, Xf, HTx.out, HIf.out, HXf.out⟩, HWx⟩
            case measure => simp [intOf]; omega
      · have k0 : (kd == 0) = false := by simp [k0]
        have k1 : (kd == 1) = false := by simp [k1]
        have k2 : (kd == 2) = false := by simp [k2]
        have k3 : (kd == 3) = false := by simp [k3]
        have k4 : (kd == 4) = false := by simp [k4]
        have k5 : (kd == 5) = false := by simp [k5]
        obtain ⟨Bf, Xf, HTf, HIf, HXf, HWf⟩ : ∃ Bf Xf, Hid (Three y2 p sb G Bf Xf) ∧ Hid (Inv ep ld Xf) ∧ Hid (∀ x, (Xf x).length ≤ k + 1) ∧ Hid (Below p w y2) := ⟨B, X, HT2, HI.out, fun x => by have := HX.out x; omega, HW2⟩
        clear HI HX
        clear HT2 HW2 HM2
        go_wp2
        go_loopw [12] (fun xv wx => ∃ x : Nat, xv = .int .i64 (x : Nat) ∧ x ≤ 3 ∧ Hid (Three wx p sb G Bf Xf) ∧ Hid (Below p w wx)) (fun xv _ => 3 - (intOf xv).toNat)
        case atStart => exact ⟨0, rfl, by omega, HTf, HWf⟩
        case round =>
          obtain ⟨x, rfl, hx, HTx, HWx⟩ := hrel
          by_cases hx3 : x < 3
          · have jx : ((x : Nat) : Int) < 3 := by omega
            go_wp2
            go_loopw [13] (fun yv wy => ∃ y : Nat, yv = .int .i64 (y : Nat) ∧ y ≤ x ∧ Hid (Three wy p sb G Bf Xf) ∧ Hid (Below p w wy)) (fun yv _ => x - (intOf yv).toNat)
            case atStart => exact ⟨0, rfl, by omega, HTx, HWx⟩
            case round =>
              obtain ⟨y, rfl, hy, HTy, HWy⟩ := hrel
              by_cases hyx : y < x
              · have jyx : ((y : Nat) : Int) < (x : Nat) := by omega
                have jy : ((y : Nat) : Int) < 3 := by omega
                have ix : (0 : Int) ≤ (x : Int) := by omega
                have iy : (0 : Int) ≤ (y : Int) := by omega
                have hmt := matched_any (G x) (G y) (Bf x) (Bf y) (Xf x) (Xf y) wr.drew ((HTy.out.lg x hx3).later (Below.refl _ _).drew) ((HTy.out.lg y (by omega)).later (Below.refl _ _).drew) (HIf.out.mat x y) (by have := HXf.out x; omega) (by have := HXf.out y; omega)
                have HMT : Hid (Calls Try.prog 29 #[.pointer (some ⟨G x, 0, none⟩), .pointer (some ⟨G y, 0, none⟩)] wr.drew fun e w' => e = .returned (.bool true) ∧ Below wr.drew.heap.size wr.drew w') := hmt
                clear hmt
                go_upto_region 28 with fail
                refine wp_region_noPanic ?_
                refine wp_region_held_drew (S := (fun w' => w'.cell? ⟨sb, x, none⟩ = some (.pointer (some ⟨G x, 0, none⟩)) ∧ w'.cell? ⟨sb, y, none⟩ = some (.pointer (some ⟨G y, 0, none⟩)))) (by kernel_rfl) ?_ (fun hHeld => ?_)
                · exact ⟨HTy.out.cells x hx3, HTy.out.cells y (by omega)⟩
                refine held_take (i := 0) (d := 99) (v := ?_) rfl rfl (by kernel_rfl) (by kernel_rfl) (by kernel_rfl) (fun _ _ _ h => h) (Or.inl ⟨by rfl, ?_⟩) hHeld ?_
                rotate_left
                · (intro w hSw; (try dsimp only at hSw); go_simp; all_goals (with_reducible rfl))
                try simp only [Act.put, List.setIfInBounds_toArray, List.set_cons_zero, List.set_cons_succ]
                refine held_take (i := 1) (d := 100) (v := ?_) rfl rfl (by kernel_rfl) (by kernel_rfl) (by kernel_rfl) (fun _ _ _ h => h) (Or.inl ⟨by rfl, ?_⟩) hHeld ?_
                rotate_left
                · (intro w hSw; (try dsimp only at hSw); go_simp; all_goals (with_reducible rfl))
                try simp only [Act.put, List.setIfInBounds_toArray, List.set_cons_zero, List.set_cons_succ]
                refine held_take (i := 2) (d := 101) (v := ?_) rfl rfl (by kernel_rfl) (by kernel_rfl) (by kernel_rfl) (fun _ _ _ h => h) (Or.inl ⟨by rfl, ?_⟩) hHeld ?_
                rotate_left
                · (intro w hSw; (try dsimp only at hSw); go_simp; all_goals (with_reducible rfl))
                try simp only [Act.put, List.setIfInBounds_toArray, List.set_cons_zero, List.set_cons_succ]
                refine held_take (i := 3) (d := 102) (v := ?_) rfl rfl (by kernel_rfl) (by kernel_rfl) (by kernel_rfl) (fun _ _ _ h => h) (Or.inl ⟨by rfl, ?_⟩) hHeld ?_
                rotate_left
                · (intro w hSw; (try dsimp only at hSw); go_simp; all_goals (with_reducible rfl))
                try simp only [Act.put, List.setIfInBounds_toArray, List.set_cons_zero, List.set_cons_succ]
                refine held_take (i := 4) (d := 103) (v := ?_) rfl rfl (by kernel_rfl) (by kernel_rfl) (by kernel_rfl) (fun _ _ _ h => h) (Or.inl ⟨by rfl, ?_⟩) hHeld ?_
                rotate_left
                · (intro w hSw; (try dsimp only at hSw); go_simp; all_goals (with_reducible rfl))
                try simp only [Act.put, List.setIfInBounds_toArray, List.set_cons_zero, List.set_cons_succ]
                refine held_take (i := 5) (d := 104) (v := ?_) rfl rfl (by kernel_rfl) (by kernel_rfl) (by kernel_rfl) (fun _ _ _ h => h) (Or.inl ⟨by rfl, ?_⟩) hHeld ?_
                rotate_left
                · (intro w hSw; (try dsimp only at hSw); go_simp; all_goals (with_reducible rfl))
                try simp only [Act.put, List.setIfInBounds_toArray, List.set_cons_zero, List.set_cons_succ]
                refine held_take (i := 6) (d := 105) (v := ?_) rfl rfl (by kernel_rfl) (by kernel_rfl) (by kernel_rfl) (fun _ _ _ h => h) (Or.inl ⟨by rfl, ?_⟩) hHeld ?_
                rotate_left
                · (intro w hSw; (try dsimp only at hSw); go_simp; all_goals (with_reducible rfl))
                try simp only [Act.put, List.setIfInBounds_toArray, List.set_cons_zero, List.set_cons_succ]
                refine held_take (i := 7) (d := 106) (v := ?_) rfl rfl (by kernel_rfl) (by kernel_rfl) (by kernel_rfl) (fun _ _ _ h => h) (Or.inl ⟨by rfl, ?_⟩) hHeld ?_
                rotate_left
                · (intro w hSw; (try dsimp only at hSw); go_simp; all_goals (with_reducible rfl))
                try simp only [Act.put, List.setIfInBounds_toArray, List.set_cons_zero, List.set_cons_succ]
                refine wpAnyH_ready (rs := [8]) (by kernel_rfl) (by simp) ?_
                refine AllReadyH.cons rfl (fun K hK => ?_) AllReadyH.nil
                go_simp
                refine HMT.out.mono ?_
                rintro e wz ⟨rfl, hbz⟩
                have HTz : Hid (Three wz p sb G Bf Xf) := (HTy.out.later (Below.refl _ _).drew).later hbz
                have HWz : Hid (Below p w wz) := HWy.out.drew.trans (hbz.mono (by simp only [World.size_drew]; exact HTy.out.lt))
                clear hbz HMT
                go_wp2_with fail
                refine hK.out _ _ ?_ (fun hHeld => ?_)
                · exact ⟨HTz.out.cells x hx3, HTz.out.cells y (by omega)⟩
                clear hK K
                try simp only [Act.put, List.setIfInBounds_toArray, List.set_cons_zero, List.set_cons_succ]
                refine held_take (i := 9) (d := 108) (v := ?_) rfl rfl (by kernel_rfl) (by kernel_rfl) (by kernel_rfl) (fun _ _ _ h => h) (Or.inl ⟨by rfl, ?_⟩) hHeld ?_
                rotate_left
                · (intro w hSw; (try dsimp only at hSw); go_simp; all_goals (with_reducible rfl))
                try simp only [Act.put, List.setIfInBounds_toArray, List.set_cons_zero, List.set_cons_succ]
                refine wpAnyH_done (by kernel_rfl) ?_ _
                refine NoPanic.normal ?_
                go_wp2
                go_roundw
                case rel => exact ⟨y + 1, by go_num, by omega, HTz, HWz⟩
                case measure => simp [intOf]; omega
              · go_wp2
                go_roundw
                case rel => exact ⟨x + 1, by go_num, by omega, HTy, HWy⟩
                case measure => simp [intOf]; omega
          · go_wp2
            go_roundw
            case rel => exact ⟨k + 1, ld, ep, sq, by go_num, by omega, by omega, by first | rfl | go_num, by omega, by first | rfl | go_num, by omega, by omega, by first | rfl | go_num, by omega, by omega, ⟨Bf, Xf, HTx.out, HIf.out, HXf.out⟩, HWx⟩
            case measure => simp [intOf]; omega
    · obtain ⟨ob3, hob⟩ : ∃ x : Nat, x = 0 := ⟨0, rfl⟩
      clear hob ob3
      by_cases hlt : k < len0
      · obtain ⟨b, off, rfl, hc⟩ := HZ.out.at (by omega)
        have hmv := hc k hlt
        clear hc
        generalize O0 k = mv at hmv
        obtain ⟨kd, ma, mb, mp, mm⟩ := mv
        obtain ⟨d0, d1, d2, d3, d4⟩ := hmv
        simp only at d0 d1 d2 d3 d4
        have d0 := (HW.out.cell (by have := World.block_lt_of_cell? _ _ d0; rw [← HP.out]; exact this)).trans d0
        have d1 := (HW.out.cell (by have := World.block_lt_of_cell? _ _ d1; rw [← HP.out]; exact this)).trans d1
        have d2 := (HW.out.cell (by have := World.block_lt_of_cell? _ _ d2; rw [← HP.out]; exact this)).trans d2
        have d3 := (HW.out.cell (by have := World.block_lt_of_cell? _ _ d3; rw [← HP.out]; exact this)).trans d3
        have d4 := (HW.out.cell (by have := World.block_lt_of_cell? _ _ d4; rw [← HP.out]; exact this)).trans d4
        have h40 : k = 40 := by omega
        subst h40
        have HWX : Hid (Below p w (wr.alloc (.cells #[.int .i64 kd, .int .i64 ma, .int .i64 mb, .int .i64 mp, .int .i64 mm] 68))) := HW.out.alloc HT.out.lt _
        clear HW HT
        go_upto_region 6 with fail
        clear d0 d1 d2 d3 d4
        generalize wr.alloc (.cells #[.int .i64 kd, .int .i64 ma, .int .i64 mb, .int .i64 mp, .int .i64 mm] 68) = y1 at *
        go_wp2_with fail
        refine (awake_any _).mono ?_
        rintro e y2 ⟨rfl, hb⟩
        have HW2 : Hid (Below p w y2) := HWX.out.trans (hb.mono (by have := HWX.out.size; have := HP.out; omega))
        clear hb
        go_wp2
        go_ret
        exact ⟨rfl, HW2.out⟩
      · have HPP := HT.out.lt
        clear HT
        go_wp2_with fail
        refine (awake_any _).mono ?_
        rintro e y2 ⟨rfl, hb⟩
        have HW2 : Hid (Below p w y2) := HW.out.trans (hb.mono HPP)
        clear hb
        go_wp2
        go_ret
        exact ⟨rfl, HW2.out⟩

/-! From the call to the statement. -/
set_option maxRecDepth 100000 in
theorem lifted (os : Os) (started : os.Started) (H : Type) (enc : TypeId × Value → H) :
    ReturnsInHanded {} Try.checked os 5 .any (Rows.linksMatchSpec.pre6 enc Try.prog Try.f5 Rows.linksMatchRow.domain false) (Rows.linksMatchSpec.post enc Try.prog Try.f5 false true false false) := by
  refine returnsInHanded_of_change (C := Try.checked) own started (by kernel_rfl) Try.func5
    (ChangeSpec.witness6 (enc := enc) (C := Try.checked) false ⟨#[], #[.slice none 0 0], []⟩ 8 (by kernel_rfl) (by kernel_rfl) (by kernel_rfl) (by kernel_rfl)) ?_
  intro W base args ds gs before hval0 hW hcnd _
  have hval : ∀ (j : Nat) t v, Try.f5.params[j]? = some t → args[j]? = some v → Value.okWide Try.prog W .any base t v := hval0
  have hW' := hW
  obtain ⟨p, q, hA0, hV, rfl, hfz, hnd⟩ := hW
  have hA : DataW.TrodAll enc Try.prog W 0 (fun _ => true) true Try.f5.params.toList args.toList ds p := hA0
  rw [Try.params5] at hA hval
  obtain ⟨v0, vs0, d0, ds0, p0, q0, hargs, rfl, rfl, h0, r0⟩ := trodAll_cons hA
  obtain ⟨rfl, rfl, rfl⟩ := trodAll_nil r0
  obtain rfl : args = #[v0] := by cases args; simp_all
  obtain ⟨rfl, rfl⟩ := trodVars_none hV
  obtain ⟨a0, len0, cap0, rfl⟩ := okWide_slice Try.underlying65 (hval 0 65 v0 rfl rfl)
  have k0 := h0
  have lt0 : ∀ x ∈ p0, x.block < W.heap.size := by obtain ⟨m, hm⟩ := k0; exact DataW.trod_lt m _ _ _ hm
  obtain ⟨O0, w0⟩ := open_mvs h0
  clear hA0 hval0
  refine (walk a0 len0 cap0 O0 W w0).mono fun e W' ⟨he, bel⟩ => ?_
  subst he
  exact ⟨_, rfl, _, _, _, [], _, [], hW', trodAll_mk1 (shut_bool Try.underlying4 _), (trodAll_cons_mk (Below.trod laidOut (by kernel_rfl) (of_decide_eq_true (by kernel_rfl)) k0 bel lt0) trodAll_mk0), rfl, bel.frame _, fun h => by cases h⟩

theorem over : Rows.linksMatchRow.holds Try.pinned (OpenSpec.ofChange Rows.linksMatchSpec) :=
  OpenClaim.holds_of_wide 5 Try.f5 rfl rfl rfl rfl rfl rfl rfl ⟨rfl, rfl, rfl, rfl, rfl⟩ rfl rfl rfl rfl rfl (by kernel_rfl) Try.func5 (by kernel_rfl)
    (of_decide_eq_true (by kernel_rfl)) (by unfold Func.isWrapper; first | (rw [if_pos (by decide +kernel)]; kernel_rfl) | (rw [if_neg (by decide +kernel)]; exact ⟨rfl, rfl⟩))
    (fun os started H enc _ => lifted os started H enc)
end Go.Proofs.Ytlefaicdcomkjaa.linksMatch
namespace Go.Proofs.Ytlefaicdcomkjaa
theorem linksMatch_holds : Rows.LinksMatchSaid := linksMatch.over
#print axioms linksMatch_holds
end Go.Proofs.Ytlefaicdcomkjaa
