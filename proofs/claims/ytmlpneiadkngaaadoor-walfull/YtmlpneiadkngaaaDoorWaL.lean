/- What Add and Sync of a log that is not dead do: contracts. -/
import Derived.Test.YtmlpneiadkngaaaDoorWaI
import Derived.Deep.RegionHeld3
namespace Go.Proofs.YtmlpneiadkngaaaDoor
open Go.RowKit
set_option linter.unusedVariables false

/-- has the disk told that it is lost? -/
def Wa.died (c : Nat) : Bool := if c = 12 then true else false

set_option maxHeartbeats 4000000 in
set_option maxRecDepth 100000 in
theorem add_any (gl g ar gn : Nat) (S : Nat → Prop) (d : DS) (a : Option Addr) (n cap : Nat) (bs : List Nat) (w : World) (hg : G w) (hl : Lg w gl g ar gn false) (h : Dk w S g d) (hS : ∀ k, w.heap.size ≤ k → S k) (hnl : ¬ S gl) (hn0 : ¬ S 0) (hr : Row w a n bs) (hz : a = none → cap = 0) (h1 : 1 ≤ n) (h2 : n ≤ 65535) :
    Calls Tryd.prog 15 #[.pointer (some ⟨gl, 0, none⟩), .slice a n cap] w fun e w' => e = .returned (.int .i64 ((d.append ar (Fr.put bs)).1 : Nat)) ∧ Lg w' gl g ar gn (Wa.died (d.append ar (Fr.put bs)).1) ∧ Dk w' S g (d.append ar (Fr.put bs)).2 ∧ Frm (fun k => S k ∨ k = gl) w w' := by
  have hlc := lcheck_live gl g ar gn w hl
  go_enter Tryd.func15, Tryd.ntmps15
  go_wp2_with fail
  refine hlc.mono ?_
  clear hlc
  rintro e w0 ⟨rfl, hw⟩
  subst w0
  go_wp2_with fail
  refine (put_ok a n cap bs w hr hz h1 h2).mono ?_
  rintro e w1 ⟨v1, rfl, ho1, hb1⟩
  obtain ⟨a1, n1, c1, rfl, hr1, -, -, hz1, -⟩ := ho1.slice
  have HL1 : Hid (Lg w1 gl g ar gn false) := hl.later hb1
  have HG1 : Hid (G w1) := hg.later hb1
  have HF1 : Hid (Frm S w w1) := Frm.of_later hb1 S
  have hsz := hb1.size
  have hb1d : Below w1.heap.size w1 w1.drew := (Below.refl _ _).drew
  have hap := dappend_any g S d ar a1 n1 c1 (Fr.put bs) w1.drew ((h.later hb1).later hb1d) (fun k hk => hS k (Nat.le_trans (Nat.le_trans hsz hb1d.size) hk)) (hr1.later hb1d) hz1
  generalize hq : d.append ar (Fr.put bs) = R at *
  have HQ : Hid (d.append ar (Fr.put bs) = R) := hq
  obtain ⟨rc, RD⟩ := R
  dsimp only at hap
  have HAP : Hid (Calls _ _ _ _ _) := hap
  clear hq hap hl hg h ho1 hr1 hb1 hr
  go_wp2_with fail
  have HKC : Hid (∀ w' dd, Lg w' gl g ar gn dd → w'.cell? ⟨gl, 0, none⟩ = some (.pointer (some ⟨g, 0, none⟩)) ∧ w'.cell? ⟨gl, 1, none⟩ = some (.int .i64 ar)) := fun w' dd h => ⟨cell_of_heap h rfl, cell_of_heap h rfl⟩
  refine wp_region_noPanic ?_
  refine wp_region_held_drew (S := (fun w' => w'.cell? ⟨gl, 0, none⟩ = some (.pointer (some ⟨g, 0, none⟩)) ∧ w'.cell? ⟨gl, 1, none⟩ = some (.int .i64 ar))) (by kernel_rfl) ?_ (fun hHeld => ?_)
  · exact HKC.out _ _ (HL1.out.later (Below.refl _ _).drew)
  refine held_take (i := 0) (d := 21) (v := ?_) rfl rfl (by kernel_rfl) (by kernel_rfl) (by kernel_rfl) (fun _ _ _ h => h) (Or.inl ⟨by rfl, ?_⟩) hHeld ?_
  rotate_left
  · (intro w hSw; (try dsimp only at hSw); go_simp; all_goals (with_reducible rfl))
  try simp only [Act.put, List.setIfInBounds_toArray, List.set_cons_zero, List.set_cons_succ]
  refine held_take (i := 1) (d := 22) (v := ?_) rfl rfl (by kernel_rfl) (by kernel_rfl) (by kernel_rfl) (fun _ _ _ h => h) (Or.inl ⟨by rfl, ?_⟩) hHeld ?_
  rotate_left
  · (intro w hSw; (try dsimp only at hSw); go_simp; all_goals (with_reducible rfl))
  try simp only [Act.put, List.setIfInBounds_toArray, List.set_cons_zero, List.set_cons_succ]
  refine held_take (i := 2) (d := 23) (v := ?_) rfl rfl (by kernel_rfl) (by kernel_rfl) (by kernel_rfl) (fun _ _ _ h => h) (Or.inl ⟨by rfl, ?_⟩) hHeld ?_
  rotate_left
  · (intro w hSw; (try dsimp only at hSw); go_simp; all_goals (with_reducible rfl))
  try simp only [Act.put, List.setIfInBounds_toArray, List.set_cons_zero, List.set_cons_succ]
  refine held_take (i := 3) (d := 24) (v := ?_) rfl rfl (by kernel_rfl) (by kernel_rfl) (by kernel_rfl) (fun _ _ _ h => h) (Or.inl ⟨by rfl, ?_⟩) hHeld ?_
  rotate_left
  · (intro w hSw; (try dsimp only at hSw); go_simp; all_goals (with_reducible rfl))
  try simp only [Act.put, List.setIfInBounds_toArray, List.set_cons_zero, List.set_cons_succ]
  refine held_take (i := 4) (d := 25) (v := ?_) rfl rfl (by kernel_rfl) (by kernel_rfl) (by kernel_rfl) (fun _ _ _ h => h) (Or.inl ⟨by rfl, ?_⟩) hHeld ?_
  rotate_left
  · (intro w hSw; (try dsimp only at hSw); go_simp; all_goals (with_reducible rfl))
  try simp only [Act.put, List.setIfInBounds_toArray, List.set_cons_zero, List.set_cons_succ]
  refine held_take (i := 5) (d := 26) (v := ?_) rfl rfl (by kernel_rfl) (by kernel_rfl) (by kernel_rfl) (fun _ _ _ h => h) (Or.inl ⟨by rfl, ?_⟩) hHeld ?_
  rotate_left
  · (intro w hSw; (try dsimp only at hSw); go_simp; all_goals (with_reducible rfl))
  try simp only [Act.put, List.setIfInBounds_toArray, List.set_cons_zero, List.set_cons_succ]
  refine held_take (i := 6) (d := 27) (v := ?_) rfl rfl (by kernel_rfl) (by kernel_rfl) (by kernel_rfl) (fun _ _ _ h => h) (Or.inl ⟨by rfl, ?_⟩) hHeld ?_
  rotate_left
  · (intro w hSw; (try dsimp only at hSw); go_simp; all_goals (with_reducible rfl))
  try simp only [Act.put, List.setIfInBounds_toArray, List.set_cons_zero, List.set_cons_succ]
  refine held_take (i := 7) (d := 28) (v := ?_) rfl rfl (by kernel_rfl) (by kernel_rfl) (by kernel_rfl) (fun _ _ _ h => h) (Or.inl ⟨by rfl, ?_⟩) hHeld ?_
  rotate_left
  · (intro w hSw; (try dsimp only at hSw); go_simp; all_goals (with_reducible rfl))
  try simp only [Act.put, List.setIfInBounds_toArray, List.set_cons_zero, List.set_cons_succ]
  refine held_take (i := 8) (d := 29) (v := ?_) rfl rfl (by kernel_rfl) (by kernel_rfl) (by kernel_rfl) (fun _ _ _ h => h) (Or.inl ⟨by rfl, ?_⟩) hHeld ?_
  rotate_left
  · (intro w hSw; (try dsimp only at hSw); go_simp; all_goals (with_reducible rfl))
  try simp only [Act.put, List.setIfInBounds_toArray, List.set_cons_zero, List.set_cons_succ]
  refine held_take (i := 9) (d := 30) (v := ?_) rfl rfl (by kernel_rfl) (by kernel_rfl) (by kernel_rfl) (fun _ _ _ h => h) (Or.inl ⟨by rfl, ?_⟩) hHeld ?_
  rotate_left
  · (intro w hSw; (try dsimp only at hSw); go_simp; all_goals (with_reducible rfl))
  try simp only [Act.put, List.setIfInBounds_toArray, List.set_cons_zero, List.set_cons_succ]
  refine wpAnyH_ready (rs := [10]) (by kernel_rfl) (by simp) ?_
  refine AllReadyH.cons rfl (fun K hK => ?_) AllReadyH.nil
  go_simp
  refine HAP.out.mono ?_
  rintro e w2 ⟨rfl, hD2, hf2⟩
  have FR2 := hf2
  have HL2 : Hid (Lg w2 gl g ar gn false) := (HL1.out.later (Below.refl _ _).drew).frm hf2 hnl
  have HG2 : Hid (G w2) := (HG1.out.later (Below.refl _ _).drew).frm hf2 hn0
  have HD2 : Hid (Dk w2 S g RD) := hD2
  have HF2 : Hid (Frm S w w2) := HF1.out.trans ((Frm.of_later (Below.refl _ _).drew _).trans FR2)
  clear hf2 hD2
  go_wp2_with fail
  refine hK.out _ _ ?_ (fun hHeld => ?_)
  · exact HKC.out _ _ HL2.out
  clear hK K
  try simp only [Act.put, List.setIfInBounds_toArray, List.set_cons_zero, List.set_cons_succ]
  refine wpAnyH_ready (rs := [11]) (by kernel_rfl) (by simp) ?_
  refine AllReadyH.cons rfl (fun K hK => ?_) AllReadyH.nil
  go_simp
  refine (new_err _ rc w2).mono ?_
  rintro e w3 ⟨v3, rfl, hv3, hb3⟩
  have HL3 : Hid (Lg w3 gl g ar gn false) := HL2.out.later hb3
  have HV3 : Hid (Err w3 rc v3) := hv3
  have HB3 : Hid (Below w2.heap.size w2 w3) := hb3
  clear hv3 hb3
  go_wp2_with fail
  refine hK.out _ _ ?_ (fun hHeld => ?_)
  · exact HKC.out _ _ HL3.out
  clear hK K
  try simp only [Act.put, List.setIfInBounds_toArray, List.set_cons_zero, List.set_cons_succ]
  refine wpAnyH_ready (rs := [12]) (by kernel_rfl) (by simp) ?_
  refine AllReadyH.cons rfl (fun K hK => ?_) AllReadyH.nil
  go_simp
  refine (told_any gl g ar gn false rc v3 w3 (HG2.out.later HB3.out) HL3.out HV3.out).mono ?_
  rintro e w4 ⟨rfl, hl4, hf4⟩
  have HL4 : Hid (Lg w4 gl g ar gn (Wa.died rc)) := hl4
  have HF4 : Hid (Frm (· = gl) w3 w4) := hf4
  clear hl4 hf4
  go_wp2_with fail
  refine hK.out _ _ ?_ (fun hHeld => ?_)
  · exact HKC.out _ _ HL4.out
  clear hK K
  try simp only [Act.put, List.setIfInBounds_toArray, List.set_cons_zero, List.set_cons_succ]
  refine held_take (i := 13) (d := 4) (v := ?_) rfl rfl (by kernel_rfl) (by kernel_rfl) (by kernel_rfl) (fun _ _ _ h => h) (Or.inl ⟨by rfl, ?_⟩) hHeld ?_
  rotate_left
  · (intro w hSw; (try dsimp only at hSw); go_simp; all_goals (with_reducible rfl))
  try simp only [Act.put, List.setIfInBounds_toArray, List.set_cons_zero, List.set_cons_succ]
  refine wpAnyH_done (by kernel_rfl) ?_ _
  refine NoPanic.normal ?_
  go_wp2
  go_ret
  have hD4 : Dk w4 S g RD := (HD2.out.later HB3.out).fr HF4.out (fun k _ hk e => hnl (by rw [← e]; exact hk))
  rw [HQ.out]
  exact ⟨rfl, HL4.out, hD4, (HF2.out.mono fun k _ hk => .inl hk).trans ((Frm.of_later HB3.out _).trans (HF4.out.mono fun k _ hk => .inr hk))⟩

set_option maxHeartbeats 4000000 in
set_option maxRecDepth 100000 in
theorem sync_any (gl g ar gn : Nat) (S : Nat → Prop) (d : DS) (w : World) (hg : G w) (hl : Lg w gl g ar gn false) (h : Dk w S g d) (hnl : ¬ S gl) (hn0 : ¬ S 0) :
    Calls Tryd.prog 16 #[.pointer (some ⟨gl, 0, none⟩)] w fun e w' => e = .returned (.int .i64 ((d.sync ar).1 : Nat)) ∧ Lg w' gl g ar gn (Wa.died (d.sync ar).1) ∧ Dk w' S g (d.sync ar).2 ∧ Frm (fun k => S k ∨ k = gl) w w' := by
  have hlc := lcheck_live gl g ar gn w hl
  have hgS := h.slot
  go_enter Tryd.func16, Tryd.ntmps16
  go_wp2_with fail
  refine hlc.mono ?_
  clear hlc
  rintro e w0 ⟨rfl, hw⟩
  subst w0
  have HL1 : Hid (Lg w gl g ar gn false) := hl
  have HG1 : Hid (G w) := hg
  have HF1 : Hid (Frm S w w) := Frm.refl _ _
  have hb1d : Below w.heap.size w w.drew := (Below.refl _ _).drew
  have hap := dsync_any g S d ar w.drew (h.later hb1d)
  generalize hq : d.sync ar = R at *
  have HQ : Hid (d.sync ar = R) := hq
  obtain ⟨rc, RD⟩ := R
  dsimp only at hap
  have HAP : Hid (Calls _ _ _ _ _) := hap
  clear hq hap hl hg h
  go_wp2_with fail
  have HKC : Hid (∀ w' dd, Lg w' gl g ar gn dd → w'.cell? ⟨gl, 0, none⟩ = some (.pointer (some ⟨g, 0, none⟩)) ∧ w'.cell? ⟨gl, 1, none⟩ = some (.int .i64 ar)) := fun w' dd h => ⟨cell_of_heap h rfl, cell_of_heap h rfl⟩
  refine wp_region_noPanic ?_
  refine wp_region_held_drew (S := (fun w' => w'.cell? ⟨gl, 0, none⟩ = some (.pointer (some ⟨g, 0, none⟩)) ∧ w'.cell? ⟨gl, 1, none⟩ = some (.int .i64 ar))) (by kernel_rfl) ?_ (fun hHeld => ?_)
  · exact HKC.out _ _ (HL1.out.later (Below.refl _ _).drew)
  refine held_take (i := 0) (d := 9) (v := ?_) rfl rfl (by kernel_rfl) (by kernel_rfl) (by kernel_rfl) (fun _ _ _ h => h) (Or.inl ⟨by rfl, ?_⟩) hHeld ?_
  rotate_left
  · (intro w hSw; (try dsimp only at hSw); go_simp; all_goals (with_reducible rfl))
  try simp only [Act.put, List.setIfInBounds_toArray, List.set_cons_zero, List.set_cons_succ]
  refine held_take (i := 1) (d := 10) (v := ?_) rfl rfl (by kernel_rfl) (by kernel_rfl) (by kernel_rfl) (fun _ _ _ h => h) (Or.inl ⟨by rfl, ?_⟩) hHeld ?_
  rotate_left
  · (intro w hSw; (try dsimp only at hSw); go_simp; all_goals (with_reducible rfl))
  try simp only [Act.put, List.setIfInBounds_toArray, List.set_cons_zero, List.set_cons_succ]
  refine held_take (i := 2) (d := 11) (v := ?_) rfl rfl (by kernel_rfl) (by kernel_rfl) (by kernel_rfl) (fun _ _ _ h => h) (Or.inl ⟨by rfl, ?_⟩) hHeld ?_
  rotate_left
  · (intro w hSw; (try dsimp only at hSw); go_simp; all_goals (with_reducible rfl))
  try simp only [Act.put, List.setIfInBounds_toArray, List.set_cons_zero, List.set_cons_succ]
  refine held_take (i := 3) (d := 12) (v := ?_) rfl rfl (by kernel_rfl) (by kernel_rfl) (by kernel_rfl) (fun _ _ _ h => h) (Or.inl ⟨by rfl, ?_⟩) hHeld ?_
  rotate_left
  · (intro w hSw; (try dsimp only at hSw); go_simp; all_goals (with_reducible rfl))
  try simp only [Act.put, List.setIfInBounds_toArray, List.set_cons_zero, List.set_cons_succ]
  refine held_take (i := 4) (d := 13) (v := ?_) rfl rfl (by kernel_rfl) (by kernel_rfl) (by kernel_rfl) (fun _ _ _ h => h) (Or.inl ⟨by rfl, ?_⟩) hHeld ?_
  rotate_left
  · (intro w hSw; (try dsimp only at hSw); go_simp; all_goals (with_reducible rfl))
  try simp only [Act.put, List.setIfInBounds_toArray, List.set_cons_zero, List.set_cons_succ]
  refine held_take (i := 5) (d := 14) (v := ?_) rfl rfl (by kernel_rfl) (by kernel_rfl) (by kernel_rfl) (fun _ _ _ h => h) (Or.inl ⟨by rfl, ?_⟩) hHeld ?_
  rotate_left
  · (intro w hSw; (try dsimp only at hSw); go_simp; all_goals (with_reducible rfl))
  try simp only [Act.put, List.setIfInBounds_toArray, List.set_cons_zero, List.set_cons_succ]
  refine held_take (i := 6) (d := 15) (v := ?_) rfl rfl (by kernel_rfl) (by kernel_rfl) (by kernel_rfl) (fun _ _ _ h => h) (Or.inl ⟨by rfl, ?_⟩) hHeld ?_
  rotate_left
  · (intro w hSw; (try dsimp only at hSw); go_simp; all_goals (with_reducible rfl))
  try simp only [Act.put, List.setIfInBounds_toArray, List.set_cons_zero, List.set_cons_succ]
  refine held_take (i := 7) (d := 16) (v := ?_) rfl rfl (by kernel_rfl) (by kernel_rfl) (by kernel_rfl) (fun _ _ _ h => h) (Or.inl ⟨by rfl, ?_⟩) hHeld ?_
  rotate_left
  · (intro w hSw; (try dsimp only at hSw); go_simp; all_goals (with_reducible rfl))
  try simp only [Act.put, List.setIfInBounds_toArray, List.set_cons_zero, List.set_cons_succ]
  refine held_take (i := 8) (d := 17) (v := ?_) rfl rfl (by kernel_rfl) (by kernel_rfl) (by kernel_rfl) (fun _ _ _ h => h) (Or.inl ⟨by rfl, ?_⟩) hHeld ?_
  rotate_left
  · (intro w hSw; (try dsimp only at hSw); go_simp; all_goals (with_reducible rfl))
  try simp only [Act.put, List.setIfInBounds_toArray, List.set_cons_zero, List.set_cons_succ]
  refine wpAnyH_ready (rs := [9]) (by kernel_rfl) (by simp) ?_
  refine AllReadyH.cons rfl (fun K hK => ?_) AllReadyH.nil
  go_simp
  refine HAP.out.mono ?_
  rintro e w2 ⟨rfl, hD2, hf2'⟩
  have hf2 : Frm S w.drew w2 := hf2'.mono fun k _ hk => by rw [hk]; exact hgS
  have FR2 := hf2
  have HL2 : Hid (Lg w2 gl g ar gn false) := (HL1.out.later (Below.refl _ _).drew).frm hf2 hnl
  have HG2 : Hid (G w2) := (HG1.out.later (Below.refl _ _).drew).frm hf2 hn0
  have HD2 : Hid (Dk w2 S g RD) := hD2
  have HF2 : Hid (Frm S w w2) := HF1.out.trans ((Frm.of_later (Below.refl _ _).drew _).trans FR2)
  clear hf2 hD2
  go_wp2_with fail
  refine hK.out _ _ ?_ (fun hHeld => ?_)
  · exact HKC.out _ _ HL2.out
  clear hK K
  try simp only [Act.put, List.setIfInBounds_toArray, List.set_cons_zero, List.set_cons_succ]
  refine wpAnyH_ready (rs := [10]) (by kernel_rfl) (by simp) ?_
  refine AllReadyH.cons rfl (fun K hK => ?_) AllReadyH.nil
  go_simp
  refine (new_err _ rc w2).mono ?_
  rintro e w3 ⟨v3, rfl, hv3, hb3⟩
  have HL3 : Hid (Lg w3 gl g ar gn false) := HL2.out.later hb3
  have HV3 : Hid (Err w3 rc v3) := hv3
  have HB3 : Hid (Below w2.heap.size w2 w3) := hb3
  clear hv3 hb3
  go_wp2_with fail
  refine hK.out _ _ ?_ (fun hHeld => ?_)
  · exact HKC.out _ _ HL3.out
  clear hK K
  try simp only [Act.put, List.setIfInBounds_toArray, List.set_cons_zero, List.set_cons_succ]
  refine wpAnyH_ready (rs := [11]) (by kernel_rfl) (by simp) ?_
  refine AllReadyH.cons rfl (fun K hK => ?_) AllReadyH.nil
  go_simp
  refine (told_any gl g ar gn false rc v3 w3 (HG2.out.later HB3.out) HL3.out HV3.out).mono ?_
  rintro e w4 ⟨rfl, hl4, hf4⟩
  have HL4 : Hid (Lg w4 gl g ar gn (Wa.died rc)) := hl4
  have HF4 : Hid (Frm (· = gl) w3 w4) := hf4
  clear hl4 hf4
  go_wp2_with fail
  refine hK.out _ _ ?_ (fun hHeld => ?_)
  · exact HKC.out _ _ HL4.out
  clear hK K
  try simp only [Act.put, List.setIfInBounds_toArray, List.set_cons_zero, List.set_cons_succ]
  refine held_take (i := 12) (d := 2) (v := ?_) rfl rfl (by kernel_rfl) (by kernel_rfl) (by kernel_rfl) (fun _ _ _ h => h) (Or.inl ⟨by rfl, ?_⟩) hHeld ?_
  rotate_left
  · (intro w hSw; (try dsimp only at hSw); go_simp; all_goals (with_reducible rfl))
  try simp only [Act.put, List.setIfInBounds_toArray, List.set_cons_zero, List.set_cons_succ]
  refine wpAnyH_done (by kernel_rfl) ?_ _
  refine NoPanic.normal ?_
  go_wp2
  go_ret
  have hD4 : Dk w4 S g RD := (HD2.out.later HB3.out).fr HF4.out (fun k _ hk e => hnl (by rw [← e]; exact hk))
  rw [HQ.out]
  exact ⟨rfl, HL4.out, hD4, (HF2.out.mono fun k _ hk => .inl hk).trans ((Frm.of_later HB3.out _).trans (HF4.out.mono fun k _ hk => .inr hk))⟩
end Go.Proofs.YtmlpneiadkngaaaDoor
