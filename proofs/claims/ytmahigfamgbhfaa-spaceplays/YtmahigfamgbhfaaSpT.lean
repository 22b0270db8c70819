/- One call of both spaces, cut: a contract. -/
import Derived.Test.YtmahigfamgbhfaaSpR
namespace Go.Proofs.Ytmahigfamgbhfaa
open Go.RowKit Go.Maps
set_option linter.unusedVariables false
set_option linter.unusedSimpArgs false

set_option maxRecDepth 100000 in
set_option maxHeartbeats 16000000 in
theorem step_sl (c g bm gr : Nat) (F : ByteArray → List Ver) (L : List LRow) (kind : Int) (key : ByteArray) (p : Int) (val0 : ByteArray) (gn : Bool) (w : World) (h : St c w g bm gr F L) (hc : c < 999) (hpw : (Lit.int .i64 p).wf = true) (hkey : key.size ≤ 40) (hval0 : val0.size ≤ maxLen) (hval : 70 < val0.size) :
    Calls Try.prog 29 #[.pointer (some ⟨g, 0, none⟩), .pointer (some ⟨gr, 0, none⟩), sop kind key p val0 gn] w (Stepped c w g bm gr) := by
  have hks : key.size ≤ maxLen := by unfold maxLen; omega
  obtain ⟨val, hve⟩ : ∃ val, val0.extract 0 70 = val := ⟨_, rfl⟩
  have hvs : val.size ≤ maxLen := by rw [← hve]; unfold maxLen; simp; omega
  have hb0 : Below w.heap.size w (w.alloc (.cells #[.int .i64 kind, .string key, .int .i64 p, .string val, .bool gn] 61)) := (Below.refl _ _).alloc (Nat.le_refl _) _
  have HS0 : Hid (St c (w.alloc (.cells #[.int .i64 kind, .string key, .int .i64 p, .string val, .bool gn] 61)) g bm gr F L) := h.later hb0
  have hvx : (w.alloc (.cells #[.int .i64 kind, .string key, .int .i64 p, .string val, .bool gn] 61)).heap[w.heap.size]? = some (.cells #[.int .i64 kind, .string key, .int .i64 p, .string val, .bool gn] 61) := heap_alloc_new w _
  have HNB : Hid (w.heap.size ≠ bm ∧ w.heap.size ≠ gr) := by
    obtain ⟨n, D, h1, _⟩ := h.sp
    obtain ⟨es, cl, hb, _⟩ := h1.map
    have h2 := (Array.getElem?_eq_some_iff.1 hb).1
    have h3 := h.rs.lt
    exact ⟨by omega, by omega⟩
  have HT0 : Hid (Two bm gr w (w.alloc (.cells #[.int .i64 kind, .string key, .int .i64 p, .string val, .bool gn] 61))) := Two.of_below hb0
  have x0 : (w.alloc (.cells #[.int .i64 kind, .string key, .int .i64 p, .string val, .bool gn] 61)).cell? ⟨w.heap.size, 0, none⟩ = some (.int .i64 kind) := cell_of_heap hvx rfl
  have x1 : (w.alloc (.cells #[.int .i64 kind, .string key, .int .i64 p, .string val, .bool gn] 61)).cell? ⟨w.heap.size, 1, none⟩ = some (.string key) := cell_of_heap hvx rfl
  have x2 : (w.alloc (.cells #[.int .i64 kind, .string key, .int .i64 p, .string val, .bool gn] 61)).cell? ⟨w.heap.size, 2, none⟩ = some (.int .i64 p) := cell_of_heap hvx rfl
  have x3 : (w.alloc (.cells #[.int .i64 kind, .string key, .int .i64 p, .string val, .bool gn] 61)).cell? ⟨w.heap.size, 3, none⟩ = some (.string val) := cell_of_heap hvx rfl
  have x4 : (w.alloc (.cells #[.int .i64 kind, .string key, .int .i64 p, .string val, .bool gn] 61)).cell? ⟨w.heap.size, 4, none⟩ = some (.bool gn) := cell_of_heap hvx rfl
  have hl1 : ¬ 40 < key.size := by omega
  unfold maxLen at hval0
  clear hb0 hvx h
  go_enter Try.func29, Try.ntmps29
  go_upto_region 5 with fail
  generalize w.alloc (.cells #[.int .i64 kind, .string key, .int .i64 p, .string val, .bool gn] 61) = w1 at *
  generalize w.heap.size = pv at *
  have HSS := HS0
  have HW1 : Hid (Two bm gr w1 w1.drew) := Two.of_below (Below.refl _ _).drew
  by_cases k0 : kind = 0 ∨ kind = 1 ∨ kind = 2 ∨ kind = 3
  · rcases k0 with rfl | rfl | rfl | rfl
    · go_upto_region 10 with fail
      obtain ⟨ci, hci⟩ : ∃ ci, code (okP (F key) key p val gn) = .int .i64 ci := ⟨_, rfl⟩
      have HSD : Hid (St c w1.drew g bm gr F L) := HS0.out.later (Below.refl _ _).drew
      refine wp_region_noPanic ?_
      refine wp_region_held_drew (S := (fun w' => w'.cell? ⟨pv, 1, none⟩ = some (.string key) ∧ w'.cell? ⟨pv, 2, none⟩ = some (.int .i64 p) ∧ w'.cell? ⟨pv, 3, none⟩ = some (.string val) ∧ w'.cell? ⟨pv, 4, none⟩ = some (.bool gn))) (by kernel_rfl) ?_ (fun hHeld => ?_)
      · exact ⟨x1, x2, x3, x4⟩
      refine held_take (i := 0) (d := 30) (v := ?_) rfl rfl (by kernel_rfl) (by kernel_rfl) (by kernel_rfl) (fun _ _ _ h => h) (Or.inl ⟨by rfl, ?_⟩) hHeld ?_
      rotate_left
      · (intro w hSw; (try dsimp only at hSw); go_simp; all_goals (with_reducible rfl))
      try simp only [Act.put, List.setIfInBounds_toArray, List.set_cons_zero, List.set_cons_succ]
      refine held_take (i := 1) (d := 31) (v := ?_) rfl rfl (by kernel_rfl) (by kernel_rfl) (by kernel_rfl) (fun _ _ _ h => h) (Or.inl ⟨by rfl, ?_⟩) hHeld ?_
      rotate_left
      · (intro w hSw; (try dsimp only at hSw); go_simp; all_goals (with_reducible rfl))
      try simp only [Act.put, List.setIfInBounds_toArray, List.set_cons_zero, List.set_cons_succ]
      refine held_take (i := 2) (d := 32) (v := ?_) rfl rfl (by kernel_rfl) (by kernel_rfl) (by kernel_rfl) (fun _ _ _ h => h) (Or.inl ⟨by rfl, ?_⟩) hHeld ?_
      rotate_left
      · (intro w hSw; (try dsimp only at hSw); go_simp; all_goals (with_reducible rfl))
      try simp only [Act.put, List.setIfInBounds_toArray, List.set_cons_zero, List.set_cons_succ]
      refine held_take (i := 3) (d := 33) (v := ?_) rfl rfl (by kernel_rfl) (by kernel_rfl) (by kernel_rfl) (fun _ _ _ h => h) (Or.inl ⟨by rfl, ?_⟩) hHeld ?_
      rotate_left
      · (intro w hSw; (try dsimp only at hSw); go_simp; all_goals (with_reducible rfl))
      try simp only [Act.put, List.setIfInBounds_toArray, List.set_cons_zero, List.set_cons_succ]
      refine held_take (i := 4) (d := 34) (v := ?_) rfl rfl (by kernel_rfl) (by kernel_rfl) (by kernel_rfl) (fun _ _ _ h => h) (Or.inl ⟨by rfl, ?_⟩) hHeld ?_
      rotate_left
      · (intro w hSw; (try dsimp only at hSw); go_simp; all_goals (with_reducible rfl))
      try simp only [Act.put, List.setIfInBounds_toArray, List.set_cons_zero, List.set_cons_succ]
      refine held_take (i := 5) (d := 35) (v := ?_) rfl rfl (by kernel_rfl) (by kernel_rfl) (by kernel_rfl) (fun _ _ _ h => h) (Or.inl ⟨by rfl, ?_⟩) hHeld ?_
      rotate_left
      · (intro w hSw; (try dsimp only at hSw); go_simp; all_goals (with_reducible rfl))
      try simp only [Act.put, List.setIfInBounds_toArray, List.set_cons_zero, List.set_cons_succ]
      refine held_take (i := 6) (d := 36) (v := ?_) rfl rfl (by kernel_rfl) (by kernel_rfl) (by kernel_rfl) (fun _ _ _ h => h) (Or.inl ⟨by rfl, ?_⟩) hHeld ?_
      rotate_left
      · (intro w hSw; (try dsimp only at hSw); go_simp; all_goals (with_reducible rfl))
      try simp only [Act.put, List.setIfInBounds_toArray, List.set_cons_zero, List.set_cons_succ]
      refine held_take (i := 7) (d := 37) (v := ?_) rfl rfl (by kernel_rfl) (by kernel_rfl) (by kernel_rfl) (fun _ _ _ h => h) (Or.inl ⟨by rfl, ?_⟩) hHeld ?_
      rotate_left
      · (intro w hSw; (try dsimp only at hSw); go_simp; all_goals (with_reducible rfl))
      try simp only [Act.put, List.setIfInBounds_toArray, List.set_cons_zero, List.set_cons_succ]
      refine held_take (i := 8) (d := 38) (v := ?_) rfl rfl (by kernel_rfl) (by kernel_rfl) (by kernel_rfl) (fun _ _ _ h => h) (Or.inl ⟨by rfl, ?_⟩) hHeld ?_
      rotate_left
      · (intro w hSw; (try dsimp only at hSw); go_simp; all_goals (with_reducible rfl))
      try simp only [Act.put, List.setIfInBounds_toArray, List.set_cons_zero, List.set_cons_succ]
      refine held_take (i := 10) (d := 40) (v := ?_) rfl rfl (by kernel_rfl) (by kernel_rfl) (by kernel_rfl) (fun _ _ _ h => h) (Or.inl ⟨by rfl, ?_⟩) hHeld ?_
      rotate_left
      · (intro w hSw; (try dsimp only at hSw); go_simp; all_goals (with_reducible rfl))
      try simp only [Act.put, List.setIfInBounds_toArray, List.set_cons_zero, List.set_cons_succ]
      refine held_take (i := 11) (d := 41) (v := ?_) rfl rfl (by kernel_rfl) (by kernel_rfl) (by kernel_rfl) (fun _ _ _ h => h) (Or.inl ⟨by rfl, ?_⟩) hHeld ?_
      rotate_left
      · (intro w hSw; (try dsimp only at hSw); go_simp; all_goals (with_reducible rfl))
      try simp only [Act.put, List.setIfInBounds_toArray, List.set_cons_zero, List.set_cons_succ]
      refine held_take (i := 12) (d := 42) (v := ?_) rfl rfl (by kernel_rfl) (by kernel_rfl) (by kernel_rfl) (fun _ _ _ h => h) (Or.inl ⟨by rfl, ?_⟩) hHeld ?_
      rotate_left
      · (intro w hSw; (try dsimp only at hSw); go_simp; all_goals (with_reducible rfl))
      try simp only [Act.put, List.setIfInBounds_toArray, List.set_cons_zero, List.set_cons_succ]
      refine held_take (i := 13) (d := 43) (v := ?_) rfl rfl (by kernel_rfl) (by kernel_rfl) (by kernel_rfl) (fun _ _ _ h => h) (Or.inl ⟨by rfl, ?_⟩) hHeld ?_
      rotate_left
      · (intro w hSw; (try dsimp only at hSw); go_simp; all_goals (with_reducible rfl))
      try simp only [Act.put, List.setIfInBounds_toArray, List.set_cons_zero, List.set_cons_succ]
      refine held_take (i := 14) (d := 44) (v := ?_) rfl rfl (by kernel_rfl) (by kernel_rfl) (by kernel_rfl) (fun _ _ _ h => h) (Or.inl ⟨by rfl, ?_⟩) hHeld ?_
      rotate_left
      · (intro w hSw; (try dsimp only at hSw); go_simp; all_goals (with_reducible rfl))
      try simp only [Act.put, List.setIfInBounds_toArray, List.set_cons_zero, List.set_cons_succ]
      refine held_take (i := 15) (d := 45) (v := ?_) rfl rfl (by kernel_rfl) (by kernel_rfl) (by kernel_rfl) (fun _ _ _ h => h) (Or.inl ⟨by rfl, ?_⟩) hHeld ?_
      rotate_left
      · (intro w hSw; (try dsimp only at hSw); go_simp; all_goals (with_reducible rfl))
      try simp only [Act.put, List.setIfInBounds_toArray, List.set_cons_zero, List.set_cons_succ]
      refine held_take (i := 16) (d := 46) (v := ?_) rfl rfl (by kernel_rfl) (by kernel_rfl) (by kernel_rfl) (fun _ _ _ h => h) (Or.inl ⟨by rfl, ?_⟩) hHeld ?_
      rotate_left
      · (intro w hSw; (try dsimp only at hSw); go_simp; all_goals (with_reducible rfl))
      try simp only [Act.put, List.setIfInBounds_toArray, List.set_cons_zero, List.set_cons_succ]
      refine held_take (i := 17) (d := 47) (v := ?_) rfl rfl (by kernel_rfl) (by kernel_rfl) (by kernel_rfl) (fun _ _ _ h => h) (Or.inl ⟨by rfl, ?_⟩) hHeld ?_
      rotate_left
      · (intro w hSw; (try dsimp only at hSw); go_simp; all_goals (with_reducible rfl))
      try simp only [Act.put, List.setIfInBounds_toArray, List.set_cons_zero, List.set_cons_succ]
      refine held_take (i := 18) (d := 48) (v := ?_) rfl rfl (by kernel_rfl) (by kernel_rfl) (by kernel_rfl) (fun _ _ _ h => h) (Or.inl ⟨by rfl, ?_⟩) hHeld ?_
      rotate_left
      · (intro w hSw; (try dsimp only at hSw); go_simp; all_goals (with_reducible rfl))
      try simp only [Act.put, List.setIfInBounds_toArray, List.set_cons_zero, List.set_cons_succ]
      refine wpAnyH_ready (rs := [9]) (by kernel_rfl) (by simp) ?_
      refine AllReadyH.cons rfl (fun K hK => ?_) AllReadyH.nil
      go_simp
      refine (sput_all c g bm gr F L key p val gn w1.drew HSD.out (by omega) hks hpw hvs).mono ?_
      rw [hci]
      rintro e w2 ⟨rfl, hsp2, hrs2, ht2⟩
      have HSP2 : Hid (∃ n D, Sp w2 g bm n D (putF F key p val gn) ∧ n ≤ c + 1) := hsp2
      have HRS2 : Hid (Rs w2 gr L) := hrs2
      have HT2 : Hid (Two bm gr w1 w2) := HW1.out.trans ht2
      clear hsp2 hrs2 ht2
      go_wp2_with fail
      refine hK.out _ _ ?_ (fun hHeld => ?_)
      · exact ⟨two_cell HT2.out x1 HNB.out.1 HNB.out.2, two_cell HT2.out x2 HNB.out.1 HNB.out.2, two_cell HT2.out x3 HNB.out.1 HNB.out.2, two_cell HT2.out x4 HNB.out.1 HNB.out.2⟩
      clear hK K
      try simp only [Act.put, List.setIfInBounds_toArray, List.set_cons_zero, List.set_cons_succ]
      refine wpAnyH_ready (rs := [19]) (by kernel_rfl) (by simp) ?_
      refine AllReadyH.cons rfl (fun K hK => ?_) AllReadyH.nil
      go_simp
      refine (rput_all c gr L key p val gn w2 HRS2.out HS0.out.many (by rw [HS0.out.agree]; exact HS0.out.bound key) (by omega) hks hpw hvs).mono ?_
      rw [HS0.out.agree, hci]
      rintro e w3 ⟨rfl, hrs3, hg3⟩
      have HSP3 : Hid (∃ n D, Sp w3 g bm n D (putF F key p val gn) ∧ n ≤ c + 1) := by obtain ⟨n, D, q1, q2⟩ := HSP2.out; exact ⟨n, D, q1.beside HRS2.out hg3, q2⟩
      have HST3 : Hid (St (c + 1) w3 g bm gr (putF F key p val gn) (putR L key p val gn)) := HS0.out.put key p val gn HSP3.out hrs3
      have HT3 : Hid (Two bm gr w1 w3) := HT2.out.trans (Two.of_gr hg3)
      clear hrs3 hg3
      go_wp2_with fail
      refine hK.out _ _ ?_ (fun hHeld => ?_)
      · exact ⟨two_cell HT3.out x1 HNB.out.1 HNB.out.2, two_cell HT3.out x2 HNB.out.1 HNB.out.2, two_cell HT3.out x3 HNB.out.1 HNB.out.2, two_cell HT3.out x4 HNB.out.1 HNB.out.2⟩
      clear hK K
      try simp only [Act.put, List.setIfInBounds_toArray, List.set_cons_zero, List.set_cons_succ]
      refine held_take (i := 20) (d := 50) (v := ?_) rfl rfl (by kernel_rfl) (by kernel_rfl) (by kernel_rfl) (fun _ _ _ h => h) (Or.inl ⟨by rfl, ?_⟩) hHeld ?_
      rotate_left
      · (intro w hSw; (try dsimp only at hSw); go_simp; all_goals (with_reducible rfl))
      try simp only [Act.put, List.setIfInBounds_toArray, List.set_cons_zero, List.set_cons_succ]
      refine held_take (i := 21) (d := 6) (v := ?_) rfl rfl (by kernel_rfl) (by kernel_rfl) (by kernel_rfl) (fun _ _ _ h => h) (Or.inl ⟨by rfl, ?_⟩) hHeld ?_
      rotate_left
      · (intro w hSw; (try dsimp only at hSw); go_simp; all_goals (with_reducible rfl))
      try simp only [Act.put, List.setIfInBounds_toArray, List.set_cons_zero, List.set_cons_succ]
      refine wpAnyH_done (by kernel_rfl) ?_ _
      refine NoPanic.normal ?_
      go_wp2
      go_ret
      exact ⟨rfl, ⟨_, _, HST3.out⟩, HT0.out.trans HT3.out⟩
    · go_upto_region 10 with fail
      obtain ⟨ci, hci⟩ : ∃ ci, code (okP (F key) key p val gn) = .int .i64 ci := ⟨_, rfl⟩
      have HSD : Hid (St c w1.drew g bm gr F L) := HS0.out.later (Below.refl _ _).drew
      refine wp_region_noPanic ?_
      refine wp_region_held_drew (S := (fun w' => w'.cell? ⟨pv, 1, none⟩ = some (.string key) ∧ w'.cell? ⟨pv, 2, none⟩ = some (.int .i64 p) ∧ w'.cell? ⟨pv, 3, none⟩ = some (.string val) ∧ w'.cell? ⟨pv, 4, none⟩ = some (.bool gn))) (by kernel_rfl) ?_ (fun hHeld => ?_)
      · exact ⟨x1, x2, x3, x4⟩
      refine held_take (i := 0) (d := 30) (v := ?_) rfl rfl (by kernel_rfl) (by kernel_rfl) (by kernel_rfl) (fun _ _ _ h => h) (Or.inl ⟨by rfl, ?_⟩) hHeld ?_
      rotate_left
      · (intro w hSw; (try dsimp only at hSw); go_simp; all_goals (with_reducible rfl))
      try simp only [Act.put, List.setIfInBounds_toArray, List.set_cons_zero, List.set_cons_succ]
      refine held_take (i := 1) (d := 31) (v := ?_) rfl rfl (by kernel_rfl) (by kernel_rfl) (by kernel_rfl) (fun _ _ _ h => h) (Or.inl ⟨by rfl, ?_⟩) hHeld ?_
      rotate_left
      · (intro w hSw; (try dsimp only at hSw); go_simp; all_goals (with_reducible rfl))
      try simp only [Act.put, List.setIfInBounds_toArray, List.set_cons_zero, List.set_cons_succ]
      refine held_take (i := 2) (d := 32) (v := ?_) rfl rfl (by kernel_rfl) (by kernel_rfl) (by kernel_rfl) (fun _ _ _ h => h) (Or.inl ⟨by rfl, ?_⟩) hHeld ?_
      rotate_left
      · (intro w hSw; (try dsimp only at hSw); go_simp; all_goals (with_reducible rfl))
      try simp only [Act.put, List.setIfInBounds_toArray, List.set_cons_zero, List.set_cons_succ]
      refine held_take (i := 3) (d := 33) (v := ?_) rfl rfl (by kernel_rfl) (by kernel_rfl) (by kernel_rfl) (fun _ _ _ h => h) (Or.inl ⟨by rfl, ?_⟩) hHeld ?_
      rotate_left
      · (intro w hSw; (try dsimp only at hSw); go_simp; all_goals (with_reducible rfl))
      try simp only [Act.put, List.setIfInBounds_toArray, List.set_cons_zero, List.set_cons_succ]
      refine held_take (i := 4) (d := 34) (v := ?_) rfl rfl (by kernel_rfl) (by kernel_rfl) (by kernel_rfl) (fun _ _ _ h => h) (Or.inl ⟨by rfl, ?_⟩) hHeld ?_
      rotate_left
      · (intro w hSw; (try dsimp only at hSw); go_simp; all_goals (with_reducible rfl))
      try simp only [Act.put, List.setIfInBounds_toArray, List.set_cons_zero, List.set_cons_succ]
      refine held_take (i := 5) (d := 35) (v := ?_) rfl rfl (by kernel_rfl) (by kernel_rfl) (by kernel_rfl) (fun _ _ _ h => h) (Or.inl ⟨by rfl, ?_⟩) hHeld ?_
      rotate_left
      · (intro w hSw; (try dsimp only at hSw); go_simp; all_goals (with_reducible rfl))
      try simp only [Act.put, List.setIfInBounds_toArray, List.set_cons_zero, List.set_cons_succ]
      refine held_take (i := 6) (d := 36) (v := ?_) rfl rfl (by kernel_rfl) (by kernel_rfl) (by kernel_rfl) (fun _ _ _ h => h) (Or.inl ⟨by rfl, ?_⟩) hHeld ?_
      rotate_left
      · (intro w hSw; (try dsimp only at hSw); go_simp; all_goals (with_reducible rfl))
      try simp only [Act.put, List.setIfInBounds_toArray, List.set_cons_zero, List.set_cons_succ]
      refine held_take (i := 7) (d := 37) (v := ?_) rfl rfl (by kernel_rfl) (by kernel_rfl) (by kernel_rfl) (fun _ _ _ h => h) (Or.inl ⟨by rfl, ?_⟩) hHeld ?_
      rotate_left
      · (intro w hSw; (try dsimp only at hSw); go_simp; all_goals (with_reducible rfl))
      try simp only [Act.put, List.setIfInBounds_toArray, List.set_cons_zero, List.set_cons_succ]
      refine held_take (i := 8) (d := 38) (v := ?_) rfl rfl (by kernel_rfl) (by kernel_rfl) (by kernel_rfl) (fun _ _ _ h => h) (Or.inl ⟨by rfl, ?_⟩) hHeld ?_
      rotate_left
      · (intro w hSw; (try dsimp only at hSw); go_simp; all_goals (with_reducible rfl))
      try simp only [Act.put, List.setIfInBounds_toArray, List.set_cons_zero, List.set_cons_succ]
      refine held_take (i := 10) (d := 40) (v := ?_) rfl rfl (by kernel_rfl) (by kernel_rfl) (by kernel_rfl) (fun _ _ _ h => h) (Or.inl ⟨by rfl, ?_⟩) hHeld ?_
      rotate_left
      · (intro w hSw; (try dsimp only at hSw); go_simp; all_goals (with_reducible rfl))
      try simp only [Act.put, List.setIfInBounds_toArray, List.set_cons_zero, List.set_cons_succ]
      refine held_take (i := 11) (d := 41) (v := ?_) rfl rfl (by kernel_rfl) (by kernel_rfl) (by kernel_rfl) (fun _ _ _ h => h) (Or.inl ⟨by rfl, ?_⟩) hHeld ?_
      rotate_left
      · (intro w hSw; (try dsimp only at hSw); go_simp; all_goals (with_reducible rfl))
      try simp only [Act.put, List.setIfInBounds_toArray, List.set_cons_zero, List.set_cons_succ]
      refine held_take (i := 12) (d := 42) (v := ?_) rfl rfl (by kernel_rfl) (by kernel_rfl) (by kernel_rfl) (fun _ _ _ h => h) (Or.inl ⟨by rfl, ?_⟩) hHeld ?_
      rotate_left
      · (intro w hSw; (try dsimp only at hSw); go_simp; all_goals (with_reducible rfl))
      try simp only [Act.put, List.setIfInBounds_toArray, List.set_cons_zero, List.set_cons_succ]
      refine held_take (i := 13) (d := 43) (v := ?_) rfl rfl (by kernel_rfl) (by kernel_rfl) (by kernel_rfl) (fun _ _ _ h => h) (Or.inl ⟨by rfl, ?_⟩) hHeld ?_
      rotate_left
      · (intro w hSw; (try dsimp only at hSw); go_simp; all_goals (with_reducible rfl))
      try simp only [Act.put, List.setIfInBounds_toArray, List.set_cons_zero, List.set_cons_succ]
      refine held_take (i := 14) (d := 44) (v := ?_) rfl rfl (by kernel_rfl) (by kernel_rfl) (by kernel_rfl) (fun _ _ _ h => h) (Or.inl ⟨by rfl, ?_⟩) hHeld ?_
      rotate_left
      · (intro w hSw; (try dsimp only at hSw); go_simp; all_goals (with_reducible rfl))
      try simp only [Act.put, List.setIfInBounds_toArray, List.set_cons_zero, List.set_cons_succ]
      refine held_take (i := 15) (d := 45) (v := ?_) rfl rfl (by kernel_rfl) (by kernel_rfl) (by kernel_rfl) (fun _ _ _ h => h) (Or.inl ⟨by rfl, ?_⟩) hHeld ?_
      rotate_left
      · (intro w hSw; (try dsimp only at hSw); go_simp; all_goals (with_reducible rfl))
      try simp only [Act.put, List.setIfInBounds_toArray, List.set_cons_zero, List.set_cons_succ]
      refine held_take (i := 16) (d := 46) (v := ?_) rfl rfl (by kernel_rfl) (by kernel_rfl) (by kernel_rfl) (fun _ _ _ h => h) (Or.inl ⟨by rfl, ?_⟩) hHeld ?_
      rotate_left
      · (intro w hSw; (try dsimp only at hSw); go_simp; all_goals (with_reducible rfl))
      try simp only [Act.put, List.setIfInBounds_toArray, List.set_cons_zero, List.set_cons_succ]
      refine held_take (i := 17) (d := 47) (v := ?_) rfl rfl (by kernel_rfl) (by kernel_rfl) (by kernel_rfl) (fun _ _ _ h => h) (Or.inl ⟨by rfl, ?_⟩) hHeld ?_
      rotate_left
      · (intro w hSw; (try dsimp only at hSw); go_simp; all_goals (with_reducible rfl))
      try simp only [Act.put, List.setIfInBounds_toArray, List.set_cons_zero, List.set_cons_succ]
      refine held_take (i := 18) (d := 48) (v := ?_) rfl rfl (by kernel_rfl) (by kernel_rfl) (by kernel_rfl) (fun _ _ _ h => h) (Or.inl ⟨by rfl, ?_⟩) hHeld ?_
      rotate_left
      · (intro w hSw; (try dsimp only at hSw); go_simp; all_goals (with_reducible rfl))
      try simp only [Act.put, List.setIfInBounds_toArray, List.set_cons_zero, List.set_cons_succ]
      refine wpAnyH_ready (rs := [9]) (by kernel_rfl) (by simp) ?_
      refine AllReadyH.cons rfl (fun K hK => ?_) AllReadyH.nil
      go_simp
      refine (sput_all c g bm gr F L key p val gn w1.drew HSD.out (by omega) hks hpw hvs).mono ?_
      rw [hci]
      rintro e w2 ⟨rfl, hsp2, hrs2, ht2⟩
      have HSP2 : Hid (∃ n D, Sp w2 g bm n D (putF F key p val gn) ∧ n ≤ c + 1) := hsp2
      have HRS2 : Hid (Rs w2 gr L) := hrs2
      have HT2 : Hid (Two bm gr w1 w2) := HW1.out.trans ht2
      clear hsp2 hrs2 ht2
      go_wp2_with fail
      refine hK.out _ _ ?_ (fun hHeld => ?_)
      · exact ⟨two_cell HT2.out x1 HNB.out.1 HNB.out.2, two_cell HT2.out x2 HNB.out.1 HNB.out.2, two_cell HT2.out x3 HNB.out.1 HNB.out.2, two_cell HT2.out x4 HNB.out.1 HNB.out.2⟩
      clear hK K
      try simp only [Act.put, List.setIfInBounds_toArray, List.set_cons_zero, List.set_cons_succ]
      refine wpAnyH_ready (rs := [19]) (by kernel_rfl) (by simp) ?_
      refine AllReadyH.cons rfl (fun K hK => ?_) AllReadyH.nil
      go_simp
      refine (rput_all c gr L key p val gn w2 HRS2.out HS0.out.many (by rw [HS0.out.agree]; exact HS0.out.bound key) (by omega) hks hpw hvs).mono ?_
      rw [HS0.out.agree, hci]
      rintro e w3 ⟨rfl, hrs3, hg3⟩
      have HSP3 : Hid (∃ n D, Sp w3 g bm n D (putF F key p val gn) ∧ n ≤ c + 1) := by obtain ⟨n, D, q1, q2⟩ := HSP2.out; exact ⟨n, D, q1.beside HRS2.out hg3, q2⟩
      have HST3 : Hid (St (c + 1) w3 g bm gr (putF F key p val gn) (putR L key p val gn)) := HS0.out.put key p val gn HSP3.out hrs3
      have HT3 : Hid (Two bm gr w1 w3) := HT2.out.trans (Two.of_gr hg3)
      clear hrs3 hg3
      go_wp2_with fail
      refine hK.out _ _ ?_ (fun hHeld => ?_)
      · exact ⟨two_cell HT3.out x1 HNB.out.1 HNB.out.2, two_cell HT3.out x2 HNB.out.1 HNB.out.2, two_cell HT3.out x3 HNB.out.1 HNB.out.2, two_cell HT3.out x4 HNB.out.1 HNB.out.2⟩
      clear hK K
      try simp only [Act.put, List.setIfInBounds_toArray, List.set_cons_zero, List.set_cons_succ]
      refine held_take (i := 20) (d := 50) (v := ?_) rfl rfl (by kernel_rfl) (by kernel_rfl) (by kernel_rfl) (fun _ _ _ h => h) (Or.inl ⟨by rfl, ?_⟩) hHeld ?_
      rotate_left
      · (intro w hSw; (try dsimp only at hSw); go_simp; all_goals (with_reducible rfl))
      try simp only [Act.put, List.setIfInBounds_toArray, List.set_cons_zero, List.set_cons_succ]
      refine held_take (i := 21) (d := 6) (v := ?_) rfl rfl (by kernel_rfl) (by kernel_rfl) (by kernel_rfl) (fun _ _ _ h => h) (Or.inl ⟨by rfl, ?_⟩) hHeld ?_
      rotate_left
      · (intro w hSw; (try dsimp only at hSw); go_simp; all_goals (with_reducible rfl))
      try simp only [Act.put, List.setIfInBounds_toArray, List.set_cons_zero, List.set_cons_succ]
      refine wpAnyH_done (by kernel_rfl) ?_ _
      refine NoPanic.normal ?_
      go_wp2
      go_ret
      exact ⟨rfl, ⟨_, _, HST3.out⟩, HT0.out.trans HT3.out⟩
    · go_upto_region 10 with fail
      obtain ⟨ci, hci⟩ : ∃ ci, code (okP (F key) key p val gn) = .int .i64 ci := ⟨_, rfl⟩
      have HSD : Hid (St c w1.drew g bm gr F L) := HS0.out.later (Below.refl _ _).drew
      refine wp_region_noPanic ?_
      refine wp_region_held_drew (S := (fun w' => w'.cell? ⟨pv, 1, none⟩ = some (.string key) ∧ w'.cell? ⟨pv, 2, none⟩ = some (.int .i64 p) ∧ w'.cell? ⟨pv, 3, none⟩ = some (.string val) ∧ w'.cell? ⟨pv, 4, none⟩ = some (.bool gn))) (by kernel_rfl) ?_ (fun hHeld => ?_)
      · exact ⟨x1, x2, x3, x4⟩
      refine held_take (i := 0) (d := 30) (v := ?_) rfl rfl (by kernel_rfl) (by kernel_rfl) (by kernel_rfl) (fun _ _ _ h => h) (Or.inl ⟨by rfl, ?_⟩) hHeld ?_
      rotate_left
      · (intro w hSw; (try dsimp only at hSw); go_simp; all_goals (with_reducible rfl))
      try simp only [Act.put, List.setIfInBounds_toArray, List.set_cons_zero, List.set_cons_succ]
      refine held_take (i := 1) (d := 31) (v := ?_) rfl rfl (by kernel_rfl) (by kernel_rfl) (by kernel_rfl) (fun _ _ _ h => h) (Or.inl ⟨by rfl, ?_⟩) hHeld ?_
      rotate_left
      · (intro w hSw; (try dsimp only at hSw); go_simp; all_goals (with_reducible rfl))
      try simp only [Act.put, List.setIfInBounds_toArray, List.set_cons_zero, List.set_cons_succ]
      refine held_take (i := 2) (d := 32) (v := ?_) rfl rfl (by kernel_rfl) (by kernel_rfl) (by kernel_rfl) (fun _ _ _ h => h) (Or.inl ⟨by rfl, ?_⟩) hHeld ?_
      rotate_left
      · (intro w hSw; (try dsimp only at hSw); go_simp; all_goals (with_reducible rfl))
      try simp only [Act.put, List.setIfInBounds_toArray, List.set_cons_zero, List.set_cons_succ]
      refine held_take (i := 3) (d := 33) (v := ?_) rfl rfl (by kernel_rfl) (by kernel_rfl) (by kernel_rfl) (fun _ _ _ h => h) (Or.inl ⟨by rfl, ?_⟩) hHeld ?_
      rotate_left
      · (intro w hSw; (try dsimp only at hSw); go_simp; all_goals (with_reducible rfl))
      try simp only [Act.put, List.setIfInBounds_toArray, List.set_cons_zero, List.set_cons_succ]
      refine held_take (i := 4) (d := 34) (v := ?_) rfl rfl (by kernel_rfl) (by kernel_rfl) (by kernel_rfl) (fun _ _ _ h => h) (Or.inl ⟨by rfl, ?_⟩) hHeld ?_
      rotate_left
      · (intro w hSw; (try dsimp only at hSw); go_simp; all_goals (with_reducible rfl))
      try simp only [Act.put, List.setIfInBounds_toArray, List.set_cons_zero, List.set_cons_succ]
      refine held_take (i := 5) (d := 35) (v := ?_) rfl rfl (by kernel_rfl) (by kernel_rfl) (by kernel_rfl) (fun _ _ _ h => h) (Or.inl ⟨by rfl, ?_⟩) hHeld ?_
      rotate_left
      · (intro w hSw; (try dsimp only at hSw); go_simp; all_goals (with_reducible rfl))
      try simp only [Act.put, List.setIfInBounds_toArray, List.set_cons_zero, List.set_cons_succ]
      refine held_take (i := 6) (d := 36) (v := ?_) rfl rfl (by kernel_rfl) (by kernel_rfl) (by kernel_rfl) (fun _ _ _ h => h) (Or.inl ⟨by rfl, ?_⟩) hHeld ?_
      rotate_left
      · (intro w hSw; (try dsimp only at hSw); go_simp; all_goals (with_reducible rfl))
      try simp only [Act.put, List.setIfInBounds_toArray, List.set_cons_zero, List.set_cons_succ]
      refine held_take (i := 7) (d := 37) (v := ?_) rfl rfl (by kernel_rfl) (by kernel_rfl) (by kernel_rfl) (fun _ _ _ h => h) (Or.inl ⟨by rfl, ?_⟩) hHeld ?_
      rotate_left
      · (intro w hSw; (try dsimp only at hSw); go_simp; all_goals (with_reducible rfl))
      try simp only [Act.put, List.setIfInBounds_toArray, List.set_cons_zero, List.set_cons_succ]
      refine held_take (i := 8) (d := 38) (v := ?_) rfl rfl (by kernel_rfl) (by kernel_rfl) (by kernel_rfl) (fun _ _ _ h => h) (Or.inl ⟨by rfl, ?_⟩) hHeld ?_
      rotate_left
      · (intro w hSw; (try dsimp only at hSw); go_simp; all_goals (with_reducible rfl))
      try simp only [Act.put, List.setIfInBounds_toArray, List.set_cons_zero, List.set_cons_succ]
      refine held_take (i := 10) (d := 40) (v := ?_) rfl rfl (by kernel_rfl) (by kernel_rfl) (by kernel_rfl) (fun _ _ _ h => h) (Or.inl ⟨by rfl, ?_⟩) hHeld ?_
      rotate_left
      · (intro w hSw; (try dsimp only at hSw); go_simp; all_goals (with_reducible rfl))
      try simp only [Act.put, List.setIfInBounds_toArray, List.set_cons_zero, List.set_cons_succ]
      refine held_take (i := 11) (d := 41) (v := ?_) rfl rfl (by kernel_rfl) (by kernel_rfl) (by kernel_rfl) (fun _ _ _ h => h) (Or.inl ⟨by rfl, ?_⟩) hHeld ?_
      rotate_left
      · (intro w hSw; (try dsimp only at hSw); go_simp; all_goals (with_reducible rfl))
      try simp only [Act.put, List.setIfInBounds_toArray, List.set_cons_zero, List.set_cons_succ]
      refine held_take (i := 12) (d := 42) (v := ?_) rfl rfl (by kernel_rfl) (by kernel_rfl) (by kernel_rfl) (fun _ _ _ h => h) (Or.inl ⟨by rfl, ?_⟩) hHeld ?_
      rotate_left
      · (intro w hSw; (try dsimp only at hSw); go_simp; all_goals (with_reducible rfl))
      try simp only [Act.put, List.setIfInBounds_toArray, List.set_cons_zero, List.set_cons_succ]
      refine held_take (i := 13) (d := 43) (v := ?_) rfl rfl (by kernel_rfl) (by kernel_rfl) (by kernel_rfl) (fun _ _ _ h => h) (Or.inl ⟨by rfl, ?_⟩) hHeld ?_
      rotate_left
      · (intro w hSw; (try dsimp only at hSw); go_simp; all_goals (with_reducible rfl))
      try simp only [Act.put, List.setIfInBounds_toArray, List.set_cons_zero, List.set_cons_succ]
      refine held_take (i := 14) (d := 44) (v := ?_) rfl rfl (by kernel_rfl) (by kernel_rfl) (by kernel_rfl) (fun _ _ _ h => h) (Or.inl ⟨by rfl, ?_⟩) hHeld ?_
      rotate_left
      · (intro w hSw; (try dsimp only at hSw); go_simp; all_goals (with_reducible rfl))
      try simp only [Act.put, List.setIfInBounds_toArray, List.set_cons_zero, List.set_cons_succ]
      refine held_take (i := 15) (d := 45) (v := ?_) rfl rfl (by kernel_rfl) (by kernel_rfl) (by kernel_rfl) (fun _ _ _ h => h) (Or.inl ⟨by rfl, ?_⟩) hHeld ?_
      rotate_left
      · (intro w hSw; (try dsimp only at hSw); go_simp; all_goals (with_reducible rfl))
      try simp only [Act.put, List.setIfInBounds_toArray, List.set_cons_zero, List.set_cons_succ]
      refine held_take (i := 16) (d := 46) (v := ?_) rfl rfl (by kernel_rfl) (by kernel_rfl) (by kernel_rfl) (fun _ _ _ h => h) (Or.inl ⟨by rfl, ?_⟩) hHeld ?_
      rotate_left
      · (intro w hSw; (try dsimp only at hSw); go_simp; all_goals (with_reducible rfl))
      try simp only [Act.put, List.setIfInBounds_toArray, List.set_cons_zero, List.set_cons_succ]
      refine held_take (i := 17) (d := 47) (v := ?_) rfl rfl (by kernel_rfl) (by kernel_rfl) (by kernel_rfl) (fun _ _ _ h => h) (Or.inl ⟨by rfl, ?_⟩) hHeld ?_
      rotate_left
      · (intro w hSw; (try dsimp only at hSw); go_simp; all_goals (with_reducible rfl))
      try simp only [Act.put, List.setIfInBounds_toArray, List.set_cons_zero, List.set_cons_succ]
      refine held_take (i := 18) (d := 48) (v := ?_) rfl rfl (by kernel_rfl) (by kernel_rfl) (by kernel_rfl) (fun _ _ _ h => h) (Or.inl ⟨by rfl, ?_⟩) hHeld ?_
      rotate_left
      · (intro w hSw; (try dsimp only at hSw); go_simp; all_goals (with_reducible rfl))
      try simp only [Act.put, List.setIfInBounds_toArray, List.set_cons_zero, List.set_cons_succ]
      refine wpAnyH_ready (rs := [9]) (by kernel_rfl) (by simp) ?_
      refine AllReadyH.cons rfl (fun K hK => ?_) AllReadyH.nil
      go_simp
      refine (sput_all c g bm gr F L key p val gn w1.drew HSD.out (by omega) hks hpw hvs).mono ?_
      rw [hci]
      rintro e w2 ⟨rfl, hsp2, hrs2, ht2⟩
      have HSP2 : Hid (∃ n D, Sp w2 g bm n D (putF F key p val gn) ∧ n ≤ c + 1) := hsp2
      have HRS2 : Hid (Rs w2 gr L) := hrs2
      have HT2 : Hid (Two bm gr w1 w2) := HW1.out.trans ht2
      clear hsp2 hrs2 ht2
      go_wp2_with fail
      refine hK.out _ _ ?_ (fun hHeld => ?_)
      · exact ⟨two_cell HT2.out x1 HNB.out.1 HNB.out.2, two_cell HT2.out x2 HNB.out.1 HNB.out.2, two_cell HT2.out x3 HNB.out.1 HNB.out.2, two_cell HT2.out x4 HNB.out.1 HNB.out.2⟩
      clear hK K
      try simp only [Act.put, List.setIfInBounds_toArray, List.set_cons_zero, List.set_cons_succ]
      refine wpAnyH_ready (rs := [19]) (by kernel_rfl) (by simp) ?_
      refine AllReadyH.cons rfl (fun K hK => ?_) AllReadyH.nil
      go_simp
      refine (rput_all c gr L key p val gn w2 HRS2.out HS0.out.many (by rw [HS0.out.agree]; exact HS0.out.bound key) (by omega) hks hpw hvs).mono ?_
      rw [HS0.out.agree, hci]
      rintro e w3 ⟨rfl, hrs3, hg3⟩
      have HSP3 : Hid (∃ n D, Sp w3 g bm n D (putF F key p val gn) ∧ n ≤ c + 1) := by obtain ⟨n, D, q1, q2⟩ := HSP2.out; exact ⟨n, D, q1.beside HRS2.out hg3, q2⟩
      have HST3 : Hid (St (c + 1) w3 g bm gr (putF F key p val gn) (putR L key p val gn)) := HS0.out.put key p val gn HSP3.out hrs3
      have HT3 : Hid (Two bm gr w1 w3) := HT2.out.trans (Two.of_gr hg3)
      clear hrs3 hg3
      go_wp2_with fail
      refine hK.out _ _ ?_ (fun hHeld => ?_)
      · exact ⟨two_cell HT3.out x1 HNB.out.1 HNB.out.2, two_cell HT3.out x2 HNB.out.1 HNB.out.2, two_cell HT3.out x3 HNB.out.1 HNB.out.2, two_cell HT3.out x4 HNB.out.1 HNB.out.2⟩
      clear hK K
      try simp only [Act.put, List.setIfInBounds_toArray, List.set_cons_zero, List.set_cons_succ]
      refine held_take (i := 20) (d := 50) (v := ?_) rfl rfl (by kernel_rfl) (by kernel_rfl) (by kernel_rfl) (fun _ _ _ h => h) (Or.inl ⟨by rfl, ?_⟩) hHeld ?_
      rotate_left
      · (intro w hSw; (try dsimp only at hSw); go_simp; all_goals (with_reducible rfl))
      try simp only [Act.put, List.setIfInBounds_toArray, List.set_cons_zero, List.set_cons_succ]
      refine held_take (i := 21) (d := 6) (v := ?_) rfl rfl (by kernel_rfl) (by kernel_rfl) (by kernel_rfl) (fun _ _ _ h => h) (Or.inl ⟨by rfl, ?_⟩) hHeld ?_
      rotate_left
      · (intro w hSw; (try dsimp only at hSw); go_simp; all_goals (with_reducible rfl))
      try simp only [Act.put, List.setIfInBounds_toArray, List.set_cons_zero, List.set_cons_succ]
      refine wpAnyH_done (by kernel_rfl) ?_ _
      refine NoPanic.normal ?_
      go_wp2
      go_ret
      exact ⟨rfl, ⟨_, _, HST3.out⟩, HT0.out.trans HT3.out⟩
    · go_upto_region 10 with fail
      obtain ⟨ci, hci⟩ : ∃ ci, code (okP (F key) key p val gn) = .int .i64 ci := ⟨_, rfl⟩
      have HSD : Hid (St c w1.drew g bm gr F L) := HS0.out.later (Below.refl _ _).drew
      refine wp_region_noPanic ?_
      refine wp_region_held_drew (S := (fun w' => w'.cell? ⟨pv, 1, none⟩ = some (.string key) ∧ w'.cell? ⟨pv, 2, none⟩ = some (.int .i64 p) ∧ w'.cell? ⟨pv, 3, none⟩ = some (.string val) ∧ w'.cell? ⟨pv, 4, none⟩ = some (.bool gn))) (by kernel_rfl) ?_ (fun hHeld => ?_)
      · exact ⟨x1, x2, x3, x4⟩
      refine held_take (i := 0) (d := 30) (v := ?_) rfl rfl (by kernel_rfl) (by kernel_rfl) (by kernel_rfl) (fun _ _ _ h => h) (Or.inl ⟨by rfl, ?_⟩) hHeld ?_
      rotate_left
      · (intro w hSw; (try dsimp only at hSw); go_simp; all_goals (with_reducible rfl))
      try simp only [Act.put, List.setIfInBounds_toArray, List.set_cons_zero, List.set_cons_succ]
      refine held_take (i := 1) (d := 31) (v := ?_) rfl rfl (by kernel_rfl) (by kernel_rfl) (by kernel_rfl) (fun _ _ _ h => h) (Or.inl ⟨by rfl, ?_⟩) hHeld ?_
      rotate_left
      · (intro w hSw; (try dsimp only at hSw); go_simp; all_goals (with_reducible rfl))
      try simp only [Act.put, List.setIfInBounds_toArray, List.set_cons_zero, List.set_cons_succ]
      refine held_take (i := 2) (d := 32) (v := ?_) rfl rfl (by kernel_rfl) (by kernel_rfl) (by kernel_rfl) (fun _ _ _ h => h) (Or.inl ⟨by rfl, ?_⟩) hHeld ?_
      rotate_left
      · (intro w hSw; (try dsimp only at hSw); go_simp; all_goals (with_reducible rfl))
      try simp only [Act.put, List.setIfInBounds_toArray, List.set_cons_zero, List.set_cons_succ]
      refine held_take (i := 3) (d := 33) (v := ?_) rfl rfl (by kernel_rfl) (by kernel_rfl) (by kernel_rfl) (fun _ _ _ h => h) (Or.inl ⟨by rfl, ?_⟩) hHeld ?_
      rotate_left
      · (intro w hSw; (try dsimp only at hSw); go_simp; all_goals (with_reducible rfl))
      try simp only [Act.put, List.setIfInBounds_toArray, List.set_cons_zero, List.set_cons_succ]
      refine held_take (i := 4) (d := 34) (v := ?_) rfl rfl (by kernel_rfl) (by kernel_rfl) (by kernel_rfl) (fun _ _ _ h => h) (Or.inl ⟨by rfl, ?_⟩) hHeld ?_
      rotate_left
      · (intro w hSw; (try dsimp only at hSw); go_simp; all_goals (with_reducible rfl))
      try simp only [Act.put, List.setIfInBounds_toArray, List.set_cons_zero, List.set_cons_succ]
      refine held_take (i := 5) (d := 35) (v := ?_) rfl rfl (by kernel_rfl) (by kernel_rfl) (by kernel_rfl) (fun _ _ _ h => h) (Or.inl ⟨by rfl, ?_⟩) hHeld ?_
      rotate_left
      · (intro w hSw; (try dsimp only at hSw); go_simp; all_goals (with_reducible rfl))
      try simp only [Act.put, List.setIfInBounds_toArray, List.set_cons_zero, List.set_cons_succ]
      refine held_take (i := 6) (d := 36) (v := ?_) rfl rfl (by kernel_rfl) (by kernel_rfl) (by kernel_rfl) (fun _ _ _ h => h) (Or.inl ⟨by rfl, ?_⟩) hHeld ?_
      rotate_left
      · (intro w hSw; (try dsimp only at hSw); go_simp; all_goals (with_reducible rfl))
      try simp only [Act.put, List.setIfInBounds_toArray, List.set_cons_zero, List.set_cons_succ]
      refine held_take (i := 7) (d := 37) (v := ?_) rfl rfl (by kernel_rfl) (by kernel_rfl) (by kernel_rfl) (fun _ _ _ h => h) (Or.inl ⟨by rfl, ?_⟩) hHeld ?_
      rotate_left
      · (intro w hSw; (try dsimp only at hSw); go_simp; all_goals (with_reducible rfl))
      try simp only [Act.put, List.setIfInBounds_toArray, List.set_cons_zero, List.set_cons_succ]
      refine held_take (i := 8) (d := 38) (v := ?_) rfl rfl (by kernel_rfl) (by kernel_rfl) (by kernel_rfl) (fun _ _ _ h => h) (Or.inl ⟨by rfl, ?_⟩) hHeld ?_
      rotate_left
      · (intro w hSw; (try dsimp only at hSw); go_simp; all_goals (with_reducible rfl))
      try simp only [Act.put, List.setIfInBounds_toArray, List.set_cons_zero, List.set_cons_succ]
      refine held_take (i := 10) (d := 40) (v := ?_) rfl rfl (by kernel_rfl) (by kernel_rfl) (by kernel_rfl) (fun _ _ _ h => h) (Or.inl ⟨by rfl, ?_⟩) hHeld ?_
      rotate_left
      · (intro w hSw; (try dsimp only at hSw); go_simp; all_goals (with_reducible rfl))
      try simp only [Act.put, List.setIfInBounds_toArray, List.set_cons_zero, List.set_cons_succ]
      refine held_take (i := 11) (d := 41) (v := ?_) rfl rfl (by kernel_rfl) (by kernel_rfl) (by kernel_rfl) (fun _ _ _ h => h) (Or.inl ⟨by rfl, ?_⟩) hHeld ?_
      rotate_left
      · (intro w hSw; (try dsimp only at hSw); go_simp; all_goals (with_reducible rfl))
      try simp only [Act.put, List.setIfInBounds_toArray, List.set_cons_zero, List.set_cons_succ]
      refine held_take (i := 12) (d := 42) (v := ?_) rfl rfl (by kernel_rfl) (by kernel_rfl) (by kernel_rfl) (fun _ _ _ h => h) (Or.inl ⟨by rfl, ?_⟩) hHeld ?_
      rotate_left
      · (intro w hSw; (try dsimp only at hSw); go_simp; all_goals (with_reducible rfl))
      try simp only [Act.put, List.setIfInBounds_toArray, List.set_cons_zero, List.set_cons_succ]
      refine held_take (i := 13) (d := 43) (v := ?_) rfl rfl (by kernel_rfl) (by kernel_rfl) (by kernel_rfl) (fun _ _ _ h => h) (Or.inl ⟨by rfl, ?_⟩) hHeld ?_
      rotate_left
      · (intro w hSw; (try dsimp only at hSw); go_simp; all_goals (with_reducible rfl))
      try simp only [Act.put, List.setIfInBounds_toArray, List.set_cons_zero, List.set_cons_succ]
      refine held_take (i := 14) (d := 44) (v := ?_) rfl rfl (by kernel_rfl) (by kernel_rfl) (by kernel_rfl) (fun _ _ _ h => h) (Or.inl ⟨by rfl, ?_⟩) hHeld ?_
      rotate_left
      · (intro w hSw; (try dsimp only at hSw); go_simp; all_goals (with_reducible rfl))
      try simp only [Act.put, List.setIfInBounds_toArray, List.set_cons_zero, List.set_cons_succ]
      refine held_take (i := 15) (d := 45) (v := ?_) rfl rfl (by kernel_rfl) (by kernel_rfl) (by kernel_rfl) (fun _ _ _ h => h) (Or.inl ⟨by rfl, ?_⟩) hHeld ?_
      rotate_left
      · (intro w hSw; (try dsimp only at hSw); go_simp; all_goals (with_reducible rfl))
      try simp only [Act.put, List.setIfInBounds_toArray, List.set_cons_zero, List.set_cons_succ]
      refine held_take (i := 16) (d := 46) (v := ?_) rfl rfl (by kernel_rfl) (by kernel_rfl) (by kernel_rfl) (fun _ _ _ h => h) (Or.inl ⟨by rfl, ?_⟩) hHeld ?_
      rotate_left
      · (intro w hSw; (try dsimp only at hSw); go_simp; all_goals (with_reducible rfl))
      try simp only [Act.put, List.setIfInBounds_toArray, List.set_cons_zero, List.set_cons_succ]
      refine held_take (i := 17) (d := 47) (v := ?_) rfl rfl (by kernel_rfl) (by kernel_rfl) (by kernel_rfl) (fun _ _ _ h => h) (Or.inl ⟨by rfl, ?_⟩) hHeld ?_
      rotate_left
      · (intro w hSw; (try dsimp only at hSw); go_simp; all_goals (with_reducible rfl))
      try simp only [Act.put, List.setIfInBounds_toArray, List.set_cons_zero, List.set_cons_succ]
      refine held_take (i := 18) (d := 48) (v := ?_) rfl rfl (by kernel_rfl) (by kernel_rfl) (by kernel_rfl) (fun _ _ _ h => h) (Or.inl ⟨by rfl, ?_⟩) hHeld ?_
      rotate_left
      · (intro w hSw; (try dsimp only at hSw); go_simp; all_goals (with_reducible rfl))
      try simp only [Act.put, List.setIfInBounds_toArray, List.set_cons_zero, List.set_cons_succ]
      refine wpAnyH_ready (rs := [9]) (by kernel_rfl) (by simp) ?_
      refine AllReadyH.cons rfl (fun K hK => ?_) AllReadyH.nil
      go_simp
      refine (sput_all c g bm gr F L key p val gn w1.drew HSD.out (by omega) hks hpw hvs).mono ?_
      rw [hci]
      rintro e w2 ⟨rfl, hsp2, hrs2, ht2⟩
      have HSP2 : Hid (∃ n D, Sp w2 g bm n D (putF F key p val gn) ∧ n ≤ c + 1) := hsp2
      have HRS2 : Hid (Rs w2 gr L) := hrs2
      have HT2 : Hid (Two bm gr w1 w2) := HW1.out.trans ht2
      clear hsp2 hrs2 ht2
      go_wp2_with fail
      refine hK.out _ _ ?_ (fun hHeld => ?_)
      · exact ⟨two_cell HT2.out x1 HNB.out.1 HNB.out.2, two_cell HT2.out x2 HNB.out.1 HNB.out.2, two_cell HT2.out x3 HNB.out.1 HNB.out.2, two_cell HT2.out x4 HNB.out.1 HNB.out.2⟩
      clear hK K
      try simp only [Act.put, List.setIfInBounds_toArray, List.set_cons_zero, List.set_cons_succ]
      refine wpAnyH_ready (rs := [19]) (by kernel_rfl) (by simp) ?_
      refine AllReadyH.cons rfl (fun K hK => ?_) AllReadyH.nil
      go_simp
      refine (rput_all c gr L key p val gn w2 HRS2.out HS0.out.many (by rw [HS0.out.agree]; exact HS0.out.bound key) (by omega) hks hpw hvs).mono ?_
      rw [HS0.out.agree, hci]
      rintro e w3 ⟨rfl, hrs3, hg3⟩
      have HSP3 : Hid (∃ n D, Sp w3 g bm n D (putF F key p val gn) ∧ n ≤ c + 1) := by obtain ⟨n, D, q1, q2⟩ := HSP2.out; exact ⟨n, D, q1.beside HRS2.out hg3, q2⟩
      have HST3 : Hid (St (c + 1) w3 g bm gr (putF F key p val gn) (putR L key p val gn)) := HS0.out.put key p val gn HSP3.out hrs3
      have HT3 : Hid (Two bm gr w1 w3) := HT2.out.trans (Two.of_gr hg3)
      clear hrs3 hg3
      go_wp2_with fail
      refine hK.out _ _ ?_ (fun hHeld => ?_)
      · exact ⟨two_cell HT3.out x1 HNB.out.1 HNB.out.2, two_cell HT3.out x2 HNB.out.1 HNB.out.2, two_cell HT3.out x3 HNB.out.1 HNB.out.2, two_cell HT3.out x4 HNB.out.1 HNB.out.2⟩
      clear hK K
      try simp only [Act.put, List.setIfInBounds_toArray, List.set_cons_zero, List.set_cons_succ]
      refine held_take (i := 20) (d := 50) (v := ?_) rfl rfl (by kernel_rfl) (by kernel_rfl) (by kernel_rfl) (fun _ _ _ h => h) (Or.inl ⟨by rfl, ?_⟩) hHeld ?_
      rotate_left
      · (intro w hSw; (try dsimp only at hSw); go_simp; all_goals (with_reducible rfl))
      try simp only [Act.put, List.setIfInBounds_toArray, List.set_cons_zero, List.set_cons_succ]
      refine held_take (i := 21) (d := 6) (v := ?_) rfl rfl (by kernel_rfl) (by kernel_rfl) (by kernel_rfl) (fun _ _ _ h => h) (Or.inl ⟨by rfl, ?_⟩) hHeld ?_
      rotate_left
      · (intro w hSw; (try dsimp only at hSw); go_simp; all_goals (with_reducible rfl))
      try simp only [Act.put, List.setIfInBounds_toArray, List.set_cons_zero, List.set_cons_succ]
      refine wpAnyH_done (by kernel_rfl) ?_ _
      refine NoPanic.normal ?_
      go_wp2
      go_ret
      exact ⟨rfl, ⟨_, _, HST3.out⟩, HT0.out.trans HT3.out⟩
  · by_cases k4 : kind = 4
    · subst k4
      obtain ⟨n, D, hsp, hn⟩ := HS0.out.sp
      have h1 := sundo_any g bm n D F p w1 hsp (by unfold maxLen; omega)
      have HSP : Hid (Sp w1 g bm n D F) := hsp
      clear hsp
      go_wp2_with fail
      refine h1.mono ?_
      clear h1
      rintro e w2 ⟨rfl, ⟨D', hsp2⟩, hg2⟩
      have HSP2 : Hid (Sp w2 g bm n D' (fun s => undoL (F s) p)) := hsp2
      have HRS2 : Hid (Rs w2 gr L) := HS0.out.rs.turned HSP.out.map (fun k hk hne => hg2.block k hk (fun e => hne (by injection e)))
      have HT2 : Hid (Two bm gr w1 w2) := Two.of_bm hg2
      have y2 := two_cell HT2.out x2 HNB.out.1 HNB.out.2
      clear hsp2 hg2
      go_wp2_with fail
      refine (rundo_any gr L p w2 HRS2.out HS0.out.sorted (HS0.out.rows (by omega)) (by have := HS0.out.many; omega)).mono ?_
      rintro e w3 ⟨rfl, hrs3, hg3⟩
      have HST3 : Hid (St c w3 g bm gr (fun s => undoL (F s) p) (mapR (fun l => undoL l p) L)) := HS0.out.map (fun l => undoL l p) (by simp [undoL]) (undo_part p) ⟨n, D', HSP2.out.beside HRS2.out hg3, hn⟩ hrs3
      have HT3 : Hid (Two bm gr w1 w3) := HT2.out.trans (Two.of_gr hg3)
      clear hrs3 hg3
      go_wp2
      go_ret
      exact ⟨rfl, ⟨_, _, HST3.out.mono (by omega)⟩, HT0.out.trans HT3.out⟩
    · by_cases k5 : kind = 5
      · subst k5
        obtain ⟨n, D, hsp, hn⟩ := HS0.out.sp
        have h1 := sclean_any g bm n D F p w1 hsp (by unfold maxLen; omega)
        have HSP : Hid (Sp w1 g bm n D F) := hsp
        clear hsp
        go_wp2_with fail
        refine h1.mono ?_
        clear h1
        rintro e w2 ⟨rfl, ⟨D', hsp2⟩, hg2⟩
        have HSP2 : Hid (Sp w2 g bm n D' (fun s => cleanL (F s) p)) := hsp2
        have HRS2 : Hid (Rs w2 gr L) := HS0.out.rs.turned HSP.out.map (fun k hk hne => hg2.block k hk (fun e => hne (by injection e)))
        have HT2 : Hid (Two bm gr w1 w2) := Two.of_bm hg2
        have y2 := two_cell HT2.out x2 HNB.out.1 HNB.out.2
        clear hsp2 hg2
        go_wp2_with fail
        refine (rclean_any gr L p w2 HRS2.out HS0.out.sorted (HS0.out.rows (by omega)) (by have := HS0.out.many; omega)).mono ?_
        rintro e w3 ⟨rfl, hrs3, hg3⟩
        have HST3 : Hid (St c w3 g bm gr (fun s => cleanL (F s) p) (mapR (fun l => cleanL l p) L)) := HS0.out.map (fun l => cleanL l p) (by simp [cleanL]) (clean_part p) ⟨n, D', HSP2.out.beside HRS2.out hg3, hn⟩ hrs3
        have HT3 : Hid (Two bm gr w1 w3) := HT2.out.trans (Two.of_gr hg3)
        clear hrs3 hg3
        go_wp2
        go_ret
        exact ⟨rfl, ⟨_, _, HST3.out.mono (by omega)⟩, HT0.out.trans HT3.out⟩
      · have e0 : ¬ kind = 0 := fun e => k0 (by omega)
        have e1 : ¬ kind = 1 := fun e => k0 (by omega)
        have e2 : ¬ kind = 2 := fun e => k0 (by omega)
        have e3 : ¬ kind = 3 := fun e => k0 (by omega)
        go_wp2
        go_ret
        exact ⟨rfl, ⟨_, _, HS0.out.mono (by omega)⟩, HT0.out⟩
end Go.Proofs.Ytmahigfamgbhfaa
