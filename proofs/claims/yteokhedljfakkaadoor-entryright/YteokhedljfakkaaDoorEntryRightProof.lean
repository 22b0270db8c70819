/-
  EntryRight (P12.1): for every entry of Go's domain the law of chapter 12 answers true: entry.RightID, entry.RightTxn and entry.Right say of the entry (its lists cut to ten) just what the document says. Conditions: those of the given statement alone; it is a tied card: package errors' own variable errorType lies as its text lays it.
-/
import Derived.Test.YteokhedljfakkaaDoorRows
import Derived.Test.YteokhedljfakkaaDoorCards
import Derived.Test.YteokhedljfakkaaDoorTie
import Derived.Test.YteokhedljfakkaaDoorDoor
import Derived.Test.YteokhedljfakkaaDoorEnN
import Derived.Test.YteokhedljfakkaaDoorEnR
import Derived.WalkKit
import Derived.ProofKit
import Derived.OpenShut
import Derived.ShutString
import Derived.ChangeOld
import Derived.Below
import Derived.SevenTiedAt
namespace Go.Proofs.YteokhedljfakkaaDoor.entryRight
open Go.ChangeShapes Go.WideShapes Go.ChangeAt Go.RowKit
open Go.ChangeMaps (open_string shut_string)
set_option linter.unusedSimpArgs false
set_option linter.unusedVariables false

theorem laidOut : laidOutB Tryd.prog = true := by kernel_rfl

theorem owns_len {w : World} {base : Nat} {e : TypeId} {k : Nat} {a : Option Addr} {n c m : Nat} {xs : List Value} (h : w.ownsRow base e k (.slice a n c) m xs) : n = m := by
  rcases h.2 with ⟨e, h2⟩ | ⟨g, cap, cur, e, _⟩
  · simp only [Value.slice.injEq] at e
    omega
  · simp only [Value.slice.injEq] at e
    exact e.2.1
theorem ten_keys {n : Nat} {S : Nat → Rdv} (h : ∀ i, i < n → (S i).key.size ≤ maxLen) : ∀ x ∈ tenR n S, x.key.size ≤ maxLen := by
  intro x hx
  simp only [tenR, List.mem_map, List.mem_range] at hx
  obtain ⟨i, hi, rfl⟩ := hx
  exact h i (by omega)
theorem ten_keysW {n : Nat} {S : Nat → Wrv} (h : ∀ i, i < n → (S i).key.size ≤ maxLen ∧ (S i).val.size ≤ maxLen) : ∀ x ∈ tenW n S, x.key.size ≤ maxLen := by
  intro x hx
  simp only [tenW, List.mem_map, List.mem_range] at hx
  obtain ⟨i, hi, rfl⟩ := hx
  exact (h i (by omega)).1
theorem ten_valsW {n : Nat} {S : Nat → Wrv} (h : ∀ i, i < n → (S i).key.size ≤ maxLen ∧ (S i).val.size ≤ maxLen) : ∀ x ∈ tenW n S, x.val.size ≤ maxLen := by
  intro x hx
  simp only [tenW, List.mem_map, List.mem_range] at hx
  obtain ⟨i, hi, rfl⟩ := hx
  exact (h i (by omega)).2
/-! The law returns true, and writes nothing that was there. -/
set_option maxRecDepth 100000 in
set_option maxHeartbeats 16000000 in
theorem walk (i0 : Eni) (w : World) (hg : G w) (w0 : i0.ok w) :
    Calls Tryd.prog 3 #[eniv i0] w fun e w' => e = .returned (.bool true) ∧ Below w.heap.size w w' := by
  obtain ⟨ep, kd, ⟨⟨t1, t2⟩, plain, ra, rn, rc, wa, wn, wc, R, W⟩, ⟨d1, d2⟩, code⟩ := i0
  have hR : Rds w ra rn R := w0.t.r
  have hW : Wrs w wa wn W := w0.t.w
  have hf : Fine (tenR rn R) (tenW wn W) := ⟨ten_keys w0.t.kr, ten_keysW w0.t.kw, ten_valsW w0.t.kw⟩
  have hmin : IntKind.u64.min = 0 := by decide
  have ht2 : 0 ≤ t2 := by have := w0.t.i2; simp [Lit.wf] at this; omega
  have hd2 : 0 ≤ d2 := by have := w0.i2; simp [Lit.wf] at this; omega
  clear hmin
  have hl1 := tenR_length rn R
  have hl2 := tenW_length wn W
  clear w0
  have hb0 : Below w.heap.size w (w.alloc (.cells #[.int .u64 ep, .int .i64 kd, .int .i64 t1, .int .u64 t2, .bool plain, .slice ra rn rc, .slice wa wn wc, .int .i64 d1, .int .u64 d2, .int .i64 code] 31)) := (Below.refl _ _).alloc (Nat.le_refl _) _
  have hcall := ours_any ep kd (t1, t2) plain ra rn rc wa wn wc R W (d1, d2) code (w.alloc (.cells #[.int .u64 ep, .int .i64 kd, .int .i64 t1, .int .u64 t2, .bool plain, .slice ra rn rc, .slice wa wn wc, .int .i64 d1, .int .u64 d2, .int .i64 code] 31)) (hR.later hb0) (hW.later hb0)
  generalize tenR rn R = l1 at *
  generalize tenW wn W = l2 at *
  clear hR hW
  go_enter Tryd.func3, Tryd.ntmps3
  go_wp2_with fail
  generalize w.alloc (.cells #[.int .u64 ep, .int .i64 kd, .int .i64 t1, .int .u64 t2, .bool plain, .slice ra rn rc, .slice wa wn wc, .int .i64 d1, .int .u64 d2, .int .i64 code] 31) = w0 at *
  refine hcall.mono ?_
  clear hcall
  rintro e w1 ⟨⟨v1, v2, rfl, ho1, ho2⟩, hb1⟩
  have HB1 : Hid (Below w.heap.size w w1) := hb0.trans (hb1.mono hb0.size)
  obtain ⟨xa, xn, xc, rfl⟩ := owns_slice ho1
  obtain ⟨ya, yn, yc, rfl⟩ := owns_slice ho2
  have EN1 : Hid (xn = l1.length) := owns_len ho1
  have EN2 : Hid (yn = l2.length) := owns_len ho2
  have htx : Tx w1 w0.heap.size xa xn xc ya yn yc l1 l2 := ⟨ho1, ho2, hf, by omega, by omega, EN1.out, EN2.out⟩
  clear ho1 ho2 hb0 hb1
  have hb2 : Below w1.heap.size w1 (w1.alloc (.cells #[.int .u64 ep, .int .i64 kd, .int .i64 t1, .int .u64 t2, .bool plain, .slice xa xn xc, .slice ya yn yc, .int .i64 d1, .int .u64 d2, .int .i64 code] 37)) := (Below.refl _ _).alloc (Nat.le_refl _) _
  have hn2 := heap_alloc_new w1 (.cells #[.int .u64 ep, .int .i64 kd, .int .i64 t1, .int .u64 t2, .bool plain, .slice xa xn xc, .slice ya yn yc, .int .i64 d1, .int .u64 d2, .int .i64 code] 37)
  go_upto_region 2 with fail
  generalize w1.alloc (.cells #[.int .u64 ep, .int .i64 kd, .int .i64 t1, .int .u64 t2, .bool plain, .slice xa xn xc, .slice ya yn yc, .int .i64 d1, .int .u64 d2, .int .i64 code] 37) = w2 at *
  have HB2 : Hid (Below w.heap.size w w2) := HB1.out.trans (hb2.mono HB1.out.size)
  have HTX2 : Hid (Tx w2 w0.heap.size xa xn xc ya yn yc l1 l2) := htx.later hb2
  have HN2 : Hid (w2.heap[w1.heap.size]? = some (.cells #[.int .u64 ep, .int .i64 kd, .int .i64 t1, .int .u64 t2, .bool plain, .slice xa xn xc, .slice ya yn yc, .int .i64 d1, .int .u64 d2, .int .i64 code] 37)) := hn2
  clear hb2 hn2 htx HB1
  generalize w1.heap.size = px at *
  obtain ⟨x0, x1, x2, x3, x4, x5, x6, x7, x8, x9⟩ := ten_cells HN2.out
  have hcall := plainE_any ep kd (t1, t2) plain w0.heap.size xa xn xc ya yn yc l1 l2 (d1, d2) code w2 HTX2.out.r HTX2.out.w (by omega) (by omega)
  go_wp2_with fail
  refine hcall.mono ?_
  clear hcall x0 x1 x2 x3 x4 x5 x6 x7 x8 x9
  rintro e w3 ⟨⟨v3, v4, rfl, ho3, ho4⟩, hb3⟩
  obtain ⟨za, zn, zc, rfl⟩ := owns_slice ho3
  obtain ⟨qa, qn, qc, rfl⟩ := owns_slice ho4
  have EN3 : Hid (zn = l1.length) := owns_len ho3
  have EN4 : Hid (qn = l2.length) := owns_len ho4
  have htr : Tr w3 w2.heap.size za zc qa qc l1 l2 := ⟨by have e := EN3.out; rw [← e]; rw [← e] at ho3; exact ho3, by have e := EN4.out; rw [← e]; rw [← e] at ho4; exact ho4, hf, by omega, by omega⟩
  have HB3 : Hid (Below w.heap.size w w3) := HB2.out.trans (hb3.mono HB2.out.size)
  have HTX3 : Hid (Tx w3 w0.heap.size xa xn xc ya yn yc l1 l2) := HTX2.out.later hb3
  have HN3 : Hid (w3.heap[px]? = some (.cells #[.int .u64 ep, .int .i64 kd, .int .i64 t1, .int .u64 t2, .bool plain, .slice xa xn xc, .slice ya yn yc, .int .i64 d1, .int .u64 d2, .int .i64 code] 37)) := keepc hb3 HN2.out
  clear ho3 ho4 hb3 HB2 HTX2 HN2
  have hb4 : Below w3.heap.size w3 (w3.alloc (.cells #[.int .u64 ep, .int .i64 kd, .int .i64 t1, .int .u64 t2, .bool plain, .slice za zn zc, .slice qa qn qc, .int .i64 d1, .int .u64 d2, .int .i64 code] 31)) := (Below.refl _ _).alloc (Nat.le_refl _) _
  have hn4 := heap_alloc_new w3 (.cells #[.int .u64 ep, .int .i64 kd, .int .i64 t1, .int .u64 t2, .bool plain, .slice za zn zc, .slice qa qn qc, .int .i64 d1, .int .u64 d2, .int .i64 code] 31)
  go_upto_region 3 with fail
  generalize w3.alloc (.cells #[.int .u64 ep, .int .i64 kd, .int .i64 t1, .int .u64 t2, .bool plain, .slice za zn zc, .slice qa qn qc, .int .i64 d1, .int .u64 d2, .int .i64 code] 31) = w4 at *
  have HB4 : Hid (Below w.heap.size w w4) := HB3.out.trans (hb4.mono HB3.out.size)
  have HTX4 : Hid (Tx w4 w0.heap.size xa xn xc ya yn yc l1 l2) := HTX3.out.later hb4
  have HTR4 : Hid (Tr w4 w2.heap.size za zc qa qc l1 l2) := htr.later hb4
  have hx4 : w4.heap[px]? = some (.cells #[.int .u64 ep, .int .i64 kd, .int .i64 t1, .int .u64 t2, .bool plain, .slice xa xn xc, .slice ya yn yc, .int .i64 d1, .int .u64 d2, .int .i64 code] 37) := keepc hb4 HN3.out
  clear hb4 htr HB3 HTX3 HN3
  generalize w3.heap.size = pw at *
  obtain ⟨x0, x1, x2, x3, x4, x5, x6, x7, x8, x9⟩ := ten_cells hx4
  obtain ⟨y0, y1, y2, y3, y4, y5, y6, y7, y8, y9⟩ := ten_cells hn4
  clear hx4 hn4
  have HS : Hid (∀ w', Below w4.heap.size w4 w' → Below w4.heap.size w4 w' ∧ w'.cell? ⟨px, 0, none⟩ = some (.int .u64 ep) ∧ w'.cell? ⟨px, 1, none⟩ = some (.int .i64 kd) ∧ w'.cell? ⟨px, 2, none⟩ = some (.int .i64 t1) ∧ w'.cell? ⟨px, 3, none⟩ = some (.int .u64 t2) ∧ w'.cell? ⟨px, 4, none⟩ = some (.bool plain) ∧ w'.cell? ⟨px, 5, none⟩ = some (.slice xa xn xc) ∧ w'.cell? ⟨px, 6, none⟩ = some (.slice ya yn yc) ∧ w'.cell? ⟨px, 7, none⟩ = some (.int .i64 d1) ∧ w'.cell? ⟨px, 8, none⟩ = some (.int .u64 d2) ∧ w'.cell? ⟨px, 9, none⟩ = some (.int .i64 code) ∧ w'.cell? ⟨pw, 0, none⟩ = some (.int .u64 ep) ∧ w'.cell? ⟨pw, 1, none⟩ = some (.int .i64 kd) ∧ w'.cell? ⟨pw, 2, none⟩ = some (.int .i64 t1) ∧ w'.cell? ⟨pw, 3, none⟩ = some (.int .u64 t2) ∧ w'.cell? ⟨pw, 4, none⟩ = some (.bool plain) ∧ w'.cell? ⟨pw, 5, none⟩ = some (.slice za zn zc) ∧ w'.cell? ⟨pw, 6, none⟩ = some (.slice qa qn qc) ∧ w'.cell? ⟨pw, 7, none⟩ = some (.int .i64 d1) ∧ w'.cell? ⟨pw, 8, none⟩ = some (.int .u64 d2) ∧ w'.cell? ⟨pw, 9, none⟩ = some (.int .i64 code)) := fun w' hb => ⟨hb, cell_later hb x0, cell_later hb x1, cell_later hb x2, cell_later hb x3, cell_later hb x4, cell_later hb x5, cell_later hb x6, cell_later hb x7, cell_later hb x8, cell_later hb x9, cell_later hb y0, cell_later hb y1, cell_later hb y2, cell_later hb y3, cell_later hb y4, cell_later hb y5, cell_later hb y6, cell_later hb y7, cell_later hb y8, cell_later hb y9⟩
  clear x0 x1 x2 x3 x4 x5 x6 x7 x8 x9 y0 y1 y2 y3 y4 y5 y6 y7 y8 y9
  have hu0 : Below w4.heap.size w4 w4.drew := (Below.refl _ _).drew
  refine wp_region_noPanic ?_
  refine wp_region_held_drew (S := (fun w' => Below w4.heap.size w4 w' ∧ w'.cell? ⟨px, 0, none⟩ = some (.int .u64 ep) ∧ w'.cell? ⟨px, 1, none⟩ = some (.int .i64 kd) ∧ w'.cell? ⟨px, 2, none⟩ = some (.int .i64 t1) ∧ w'.cell? ⟨px, 3, none⟩ = some (.int .u64 t2) ∧ w'.cell? ⟨px, 4, none⟩ = some (.bool plain) ∧ w'.cell? ⟨px, 5, none⟩ = some (.slice xa xn xc) ∧ w'.cell? ⟨px, 6, none⟩ = some (.slice ya yn yc) ∧ w'.cell? ⟨px, 7, none⟩ = some (.int .i64 d1) ∧ w'.cell? ⟨px, 8, none⟩ = some (.int .u64 d2) ∧ w'.cell? ⟨px, 9, none⟩ = some (.int .i64 code) ∧ w'.cell? ⟨pw, 0, none⟩ = some (.int .u64 ep) ∧ w'.cell? ⟨pw, 1, none⟩ = some (.int .i64 kd) ∧ w'.cell? ⟨pw, 2, none⟩ = some (.int .i64 t1) ∧ w'.cell? ⟨pw, 3, none⟩ = some (.int .u64 t2) ∧ w'.cell? ⟨pw, 4, none⟩ = some (.bool plain) ∧ w'.cell? ⟨pw, 5, none⟩ = some (.slice za zn zc) ∧ w'.cell? ⟨pw, 6, none⟩ = some (.slice qa qn qc) ∧ w'.cell? ⟨pw, 7, none⟩ = some (.int .i64 d1) ∧ w'.cell? ⟨pw, 8, none⟩ = some (.int .u64 d2) ∧ w'.cell? ⟨pw, 9, none⟩ = some (.int .i64 code))) (by kernel_rfl) ?_ (fun hHeld => ?_)
  · exact HS.out _ hu0
  refine held_take (i := 0) (d := 9) (v := ?_) rfl rfl (by kernel_rfl) (by kernel_rfl) (by kernel_rfl) (fun _ _ _ h => h) (Or.inl ⟨by rfl, ?_⟩) hHeld ?_
  rotate_left
  · (intro w hSw; (try dsimp only at hSw); go_simp; all_goals (with_reducible rfl))
  try simp only [Act.put, List.setIfInBounds_toArray, List.set_cons_zero, List.set_cons_succ]
  refine held_take (i := 1) (d := 10) (v := ?_) rfl rfl (by kernel_rfl) (by kernel_rfl) (by kernel_rfl) (fun _ _ _ h => h) (Or.inl ⟨by rfl, ?_⟩) hHeld ?_
  rotate_left
  · (intro w hSw; (try dsimp only at hSw); go_simp; all_goals (with_reducible rfl))
  try simp only [Act.put, List.setIfInBounds_toArray, List.set_cons_zero, List.set_cons_succ]
  refine held_take (i := 2) (d := 11) (v := ?_) rfl rfl (by kernel_rfl) (by kernel_rfl) (by kernel_rfl) (fun _ _ _ h => h) (Or.inl ⟨by rfl, ?_⟩) hHeld ?_
  rotate_left
  · (intro w hSw; (try dsimp only at hSw); go_simp; all_goals (with_reducible rfl))
  try simp only [Act.put, List.setIfInBounds_toArray, List.set_cons_zero, List.set_cons_succ]
  refine held_take (i := 4) (d := 13) (v := ?_) rfl rfl (by kernel_rfl) (by kernel_rfl) (by kernel_rfl) (fun _ _ _ h => h) (Or.inl ⟨by rfl, ?_⟩) hHeld ?_
  rotate_left
  · (intro w hSw; (try dsimp only at hSw); go_simp; all_goals (with_reducible rfl))
  try simp only [Act.put, List.setIfInBounds_toArray, List.set_cons_zero, List.set_cons_succ]
  refine held_take (i := 5) (d := 14) (v := ?_) rfl rfl (by kernel_rfl) (by kernel_rfl) (by kernel_rfl) (fun _ _ _ h => h) (Or.inl ⟨by rfl, ?_⟩) hHeld ?_
  rotate_left
  · (intro w hSw; (try dsimp only at hSw); go_simp; all_goals (with_reducible rfl))
  try simp only [Act.put, List.setIfInBounds_toArray, List.set_cons_zero, List.set_cons_succ]
  refine held_take (i := 6) (d := 15) (v := ?_) rfl rfl (by kernel_rfl) (by kernel_rfl) (by kernel_rfl) (fun _ _ _ h => h) (Or.inl ⟨by rfl, ?_⟩) hHeld ?_
  rotate_left
  · (intro w hSw; (try dsimp only at hSw); go_simp; all_goals (with_reducible rfl))
  try simp only [Act.put, List.setIfInBounds_toArray, List.set_cons_zero, List.set_cons_succ]
  refine wpAnyH_ready (rs := [3]) (by kernel_rfl) (by simp) ?_
  refine AllReadyH.cons rfl (fun K hK => ?_) AllReadyH.nil
  go_simp
  have hq := rightID_any (t1, t2) w4.drew
  refine hq.mono ?_
  clear hq
  rintro e u1 ⟨rfl, hx⟩
  have hu1 : Below w4.heap.size w4 u1 := hu0.trans (hx.mono hu0.size)
  clear hx
  go_wp2_with fail
  refine hK.out _ _ ?_ (fun hHeld => ?_)
  · exact HS.out _ hu1
  clear hK K
  try simp only [Act.put, List.setIfInBounds_toArray, List.set_cons_zero, List.set_cons_succ]
  refine wpAnyH_ready (rs := [7]) (by kernel_rfl) (by simp) ?_
  refine AllReadyH.cons rfl (fun K hK => ?_) AllReadyH.nil
  go_simp
  have hq := ref_rightID_any (t1, t2) u1 ht2
  refine hq.mono ?_
  clear hq
  rintro e u2 ⟨rfl, hx⟩
  have hu2 : Below w4.heap.size w4 u2 := hu1.trans (hx.mono hu1.size)
  clear hx
  go_wp2_with fail
  refine hK.out _ _ ?_ (fun hHeld => ?_)
  · exact HS.out _ hu2
  clear hK K
  try simp only [Act.put, List.setIfInBounds_toArray, List.set_cons_zero, List.set_cons_succ]
  refine held_take (i := 8) (d := 17) (v := ?_) rfl rfl (by kernel_rfl) (by kernel_rfl) (by kernel_rfl) (fun _ _ _ h => h) (Or.inl ⟨by rfl, ?_⟩) hHeld ?_
  rotate_left
  · (intro w hSw; (try dsimp only at hSw); go_simp; all_goals (with_reducible rfl))
  try simp only [Act.put, List.setIfInBounds_toArray, List.set_cons_zero, List.set_cons_succ]
  refine held_take (i := 9) (d := 18) (v := ?_) rfl rfl (by kernel_rfl) (by kernel_rfl) (by kernel_rfl) (fun _ _ _ h => h) (Or.inl ⟨by rfl, ?_⟩) hHeld ?_
  rotate_left
  · (intro w hSw; (try dsimp only at hSw); go_simp; all_goals (with_reducible rfl))
  try simp only [Act.put, List.setIfInBounds_toArray, List.set_cons_zero, List.set_cons_succ]
  refine held_take (i := 10) (d := 19) (v := ?_) rfl rfl (by kernel_rfl) (by kernel_rfl) (by kernel_rfl) (fun _ _ _ h => h) (Or.inl ⟨by rfl, ?_⟩) hHeld ?_
  rotate_left
  · (intro w hSw; (try dsimp only at hSw); go_simp; all_goals (with_reducible rfl))
  try simp only [Act.put, List.setIfInBounds_toArray, List.set_cons_zero, List.set_cons_succ]
  refine held_take (i := 11) (d := 20) (v := ?_) rfl rfl (by kernel_rfl) (by kernel_rfl) (by kernel_rfl) (fun _ _ _ h => h) (Or.inl ⟨by rfl, ?_⟩) hHeld ?_
  rotate_left
  · (intro w hSw; (try dsimp only at hSw); go_simp; all_goals (with_reducible rfl))
  try simp only [Act.put, List.setIfInBounds_toArray, List.set_cons_zero, List.set_cons_succ]
  refine held_take (i := 13) (d := 22) (v := ?_) rfl rfl (by kernel_rfl) (by kernel_rfl) (by kernel_rfl) (fun _ _ _ h => h) (Or.inl ⟨by rfl, ?_⟩) hHeld ?_
  rotate_left
  · (intro w hSw; (try dsimp only at hSw); go_simp; all_goals (with_reducible rfl))
  try simp only [Act.put, List.setIfInBounds_toArray, List.set_cons_zero, List.set_cons_succ]
  refine held_take (i := 14) (d := 23) (v := ?_) rfl rfl (by kernel_rfl) (by kernel_rfl) (by kernel_rfl) (fun _ _ _ h => h) (Or.inl ⟨by rfl, ?_⟩) hHeld ?_
  rotate_left
  · (intro w hSw; (try dsimp only at hSw); go_simp; all_goals (with_reducible rfl))
  try simp only [Act.put, List.setIfInBounds_toArray, List.set_cons_zero, List.set_cons_succ]
  refine wpAnyH_ready (rs := [12]) (by kernel_rfl) (by simp) ?_
  refine AllReadyH.cons rfl (fun K hK => ?_) AllReadyH.nil
  go_simp
  have hq := rightTxn_any (t1, t2) plain w0.heap.size _ _ l1 l2 u2 (HTX4.out.later hu2).r (HTX4.out.later hu2).w HTX4.out.f (by omega) (by omega)
  refine hq.mono ?_
  clear hq
  rintro e u3 ⟨rfl, hx⟩
  have hu3 : Below w4.heap.size w4 u3 := hu2.trans (hx.mono hu2.size)
  clear hx
  go_wp2_with fail
  refine hK.out _ _ ?_ (fun hHeld => ?_)
  · exact HS.out _ hu3
  clear hK K
  try simp only [Act.put, List.setIfInBounds_toArray, List.set_cons_zero, List.set_cons_succ]
  refine wpAnyH_ready (rs := [15]) (by kernel_rfl) (by simp) ?_
  refine AllReadyH.cons rfl (fun K hK => ?_) AllReadyH.nil
  go_simp
  have hq := ref_rightTxn_any (t1, t2) plain w2.heap.size _ _ l1 l2 u3 (HTR4.out.later hu3).r (HTR4.out.later hu3).w ht2 (by omega) (by omega) hf.r (fun x hx => ⟨hf.k x hx, hf.v x hx⟩)
  rw [← EN3.out, ← EN4.out] at hq
  refine hq.mono ?_
  clear hq
  rintro e u4 ⟨rfl, hx⟩
  have hu4 : Below w4.heap.size w4 u4 := hu3.trans (hx.mono hu3.size)
  clear hx
  go_wp2_with fail
  refine hK.out _ _ ?_ (fun hHeld => ?_)
  · exact HS.out _ hu4
  clear hK K
  try simp only [Act.put, List.setIfInBounds_toArray, List.set_cons_zero, List.set_cons_succ]
  refine held_take (i := 16) (d := 25) (v := ?_) rfl rfl (by kernel_rfl) (by kernel_rfl) (by kernel_rfl) (fun _ _ _ h => h) (Or.inl ⟨by rfl, ?_⟩) hHeld ?_
  rotate_left
  · (intro w hSw; (try dsimp only at hSw); go_simp; all_goals (with_reducible rfl))
  try simp only [Act.put, List.setIfInBounds_toArray, List.set_cons_zero, List.set_cons_succ]
  refine held_take (i := 17) (d := 26) (v := ?_) rfl rfl (by kernel_rfl) (by kernel_rfl) (by kernel_rfl) (fun _ _ _ h => h) (Or.inl ⟨by rfl, ?_⟩) hHeld ?_
  rotate_left
  · (intro w hSw; (try dsimp only at hSw); go_simp; all_goals (with_reducible rfl))
  try simp only [Act.put, List.setIfInBounds_toArray, List.set_cons_zero, List.set_cons_succ]
  refine held_take (i := 18) (d := 27) (v := ?_) rfl rfl (by kernel_rfl) (by kernel_rfl) (by kernel_rfl) (fun _ _ _ h => h) (Or.inl ⟨by rfl, ?_⟩) hHeld ?_
  rotate_left
  · (intro w hSw; (try dsimp only at hSw); go_simp; all_goals (with_reducible rfl))
  try simp only [Act.put, List.setIfInBounds_toArray, List.set_cons_zero, List.set_cons_succ]
  refine held_take (i := 19) (d := 28) (v := ?_) rfl rfl (by kernel_rfl) (by kernel_rfl) (by kernel_rfl) (fun _ _ _ h => h) (Or.inl ⟨by rfl, ?_⟩) hHeld ?_
  rotate_left
  · (intro w hSw; (try dsimp only at hSw); go_simp; all_goals (with_reducible rfl))
  try simp only [Act.put, List.setIfInBounds_toArray, List.set_cons_zero, List.set_cons_succ]
  refine held_take (i := 21) (d := 30) (v := ?_) rfl rfl (by kernel_rfl) (by kernel_rfl) (by kernel_rfl) (fun _ _ _ h => h) (Or.inl ⟨by rfl, ?_⟩) hHeld ?_
  rotate_left
  · (intro w hSw; (try dsimp only at hSw); go_simp; all_goals (with_reducible rfl))
  try simp only [Act.put, List.setIfInBounds_toArray, List.set_cons_zero, List.set_cons_succ]
  refine wpAnyH_ready (rs := [20]) (by kernel_rfl) (by simp) ?_
  refine AllReadyH.cons rfl (fun K hK => ?_) AllReadyH.nil
  go_simp
  have hq := rightE_any ep kd (t1, t2) plain w0.heap.size xa xn xc ya yn yc l1 l2 (d1, d2) code u4 (HTX4.out.later hu4)
  refine hq.mono ?_
  clear hq
  rintro e u5 ⟨rfl, hx⟩
  have hu5 : Below w4.heap.size w4 u5 := hu4.trans (hx.mono hu4.size)
  clear hx
  go_wp2_with fail
  refine hK.out _ _ ?_ (fun hHeld => ?_)
  · exact HS.out _ hu5
  clear hK K
  try simp only [Act.put, List.setIfInBounds_toArray, List.set_cons_zero, List.set_cons_succ]
  refine wpAnyH_ready (rs := [22]) (by kernel_rfl) (by simp) ?_
  refine AllReadyH.cons rfl (fun K hK => ?_) AllReadyH.nil
  go_simp
  have hq := ref_right_entry ep kd (t1, t2) plain w2.heap.size za zc qa qc l1 l2 (d1, d2) code u5 (HTR4.out.later hu5) ht2 hd2
  rw [← EN3.out, ← EN4.out] at hq
  refine hq.mono ?_
  clear hq
  rintro e u6 ⟨rfl, hx⟩
  have hu6 : Below w4.heap.size w4 u6 := hu5.trans (hx.mono hu5.size)
  clear hx
  go_wp2_with fail
  refine hK.out _ _ ?_ (fun hHeld => ?_)
  · exact HS.out _ hu6
  clear hK K
  try simp only [Act.put, List.setIfInBounds_toArray, List.set_cons_zero, List.set_cons_succ]
  refine held_take (i := 23) (d := 32) (v := ?_) rfl rfl (by kernel_rfl) (by kernel_rfl) (by kernel_rfl) (fun _ _ _ h => h) (Or.inl ⟨by rfl, ?_⟩) hHeld ?_
  rotate_left
  · (intro w hSw; (try dsimp only at hSw); go_simp; all_goals (with_reducible rfl))
  try simp only [Act.put, List.setIfInBounds_toArray, List.set_cons_zero, List.set_cons_succ]
  refine held_take (i := 24) (d := 33) (v := ?_) rfl rfl (by kernel_rfl) (by kernel_rfl) (by kernel_rfl) (fun _ _ _ h => h) (Or.inl ⟨by rfl, ?_⟩) hHeld ?_
  rotate_left
  · (intro w hSw; (try dsimp only at hSw); go_simp; all_goals (with_reducible rfl))
  try simp only [Act.put, List.setIfInBounds_toArray, List.set_cons_zero, List.set_cons_succ]
  refine held_take (i := 25) (d := 34) (v := ?_) rfl rfl (by kernel_rfl) (by kernel_rfl) (by kernel_rfl) (fun _ _ _ h => h) (Or.inl ⟨by rfl, ?_⟩) hHeld ?_
  rotate_left
  · (intro w hSw; (try dsimp only at hSw); go_simp; all_goals (with_reducible rfl))
  try simp only [Act.put, List.setIfInBounds_toArray, List.set_cons_zero, List.set_cons_succ]
  refine wpAnyH_ready (rs := [26]) (by kernel_rfl) (by simp) ?_
  refine AllReadyH.cons rfl (fun K hK => ?_) AllReadyH.nil
  go_simp
  have hq := awake12_any u6
  refine hq.mono ?_
  clear hq
  rintro e u7 ⟨rfl, hx⟩
  have hu7 : Below w4.heap.size w4 u7 := hu6.trans (hx.mono hu6.size)
  clear hx
  go_wp2_with fail
  refine hK.out _ _ ?_ (fun hHeld => ?_)
  · exact HS.out _ hu7
  clear hK K
  try simp only [Act.put, List.setIfInBounds_toArray, List.set_cons_zero, List.set_cons_succ]
  refine held_take (i := 27) (d := 36) (v := ?_) rfl rfl (by kernel_rfl) (by kernel_rfl) (by kernel_rfl) (fun _ _ _ h => h) (Or.inl ⟨by rfl, ?_⟩) hHeld ?_
  rotate_left
  · (intro w hSw; (try dsimp only at hSw); go_simp; all_goals (with_reducible rfl))
  try simp only [Act.put, List.setIfInBounds_toArray, List.set_cons_zero, List.set_cons_succ]
  refine held_take (i := 28) (d := 2) (v := ?_) rfl rfl (by kernel_rfl) (by kernel_rfl) (by kernel_rfl) (fun _ _ _ h => h) (Or.inl ⟨by rfl, ?_⟩) hHeld ?_
  rotate_left
  · (intro w hSw; (try dsimp only at hSw); go_simp; all_goals (with_reducible rfl))
  try simp only [Act.put, List.setIfInBounds_toArray, List.set_cons_zero, List.set_cons_succ]
  refine wpAnyH_done (by kernel_rfl) ?_ _
  refine NoPanic.normal ?_
  clear hHeld HS
  have HF : Hid (Below w.heap.size w u7) := HB4.out.trans (hu7.mono HB4.out.size)
  go_wp2
  go_ret
  exact ⟨rfl, HF.out⟩

/-! From the call to the statement. -/
set_option maxRecDepth 100000 in
theorem lifted (os : Os) (started : os.Started) (H : Type) (enc : TypeId × Value → H) :
    ReturnsInHanded {} Tryd.checked os 3 .any (fun w args => (Rows.entryRightSpec.pre enc Tryd.prog Tryd.f3 [] false w args ∧ laidMetH Tryd.prog listed w) ∧ sizedMet enc Tryd.prog Tryd.f3 (OpenSpec.ofChange Rows.entryRightSpec) false w args)
      (Rows.entryRightSpec.post enc Tryd.prog Tryd.f3 false true false false) := by
  refine returnsInHanded_of_change_and (C := Tryd.checked) (X := fun w _ => laidMetH Tryd.prog listed w) (fun _ _ _ hh h => h.of_heap hh) Fa.own started (by kernel_rfl) Tryd.func3
    (ChangeSpec.witness_shaped (enc := enc) (C := Tryd.checked) (os := os) (X := fun w _ => laidMetH Tryd.prog listed w) false (World.doorLaid Tryd.prog 400 os) #[.agg #[.int .u64 0, .int .i64 0, .int .i64 0, .int .u64 0, .bool false, .slice none 0 0, .slice none 0 0, .int .i64 0, .int .u64 0, .int .i64 0]] 8 rfl (World.shaped_of_RefB (by kernel_rfl) (by kernel_rfl)) (by kernel_rfl) (by kernel_rfl) (by kernel_rfl) (door_met os _)) ?_
  intro W base args ds gs before hval0 hW _ _ hL _
  have hval : ∀ (j : Nat) t v, Tryd.f3.params[j]? = some t → args[j]? = some v → Value.okWide Tryd.prog W .any base t v := hval0
  have hW' := hW
  obtain ⟨p, q, hA0, hV, rfl, hfz, hnd⟩ := hW
  have hA : DataW.TrodAll enc Tryd.prog W 0 (fun _ => true) true Tryd.f3.params.toList args.toList ds p := hA0
  rw [Tryd.params3] at hA hval
  obtain ⟨v0, vs0, d0, ds0, p0, q0, hargs, rfl, rfl, h0, r0⟩ := trodAll_cons hA
  obtain ⟨rfl, rfl, rfl⟩ := trodAll_nil r0
  obtain rfl : args = #[v0] := by cases args; simp_all
  obtain ⟨rfl, rfl⟩ := trodVars_none hV
  have k0 := h0
  have lt0 : ∀ x ∈ p0, x.block < W.heap.size := by obtain ⟨m, hm⟩ := k0; exact DataW.trod_lt m _ _ _ hm
  obtain ⟨i0, rfl, w0⟩ := open_eni (hval 0 31 v0 rfl rfl) h0
  clear hA0 hval0
  refine (walk i0 W (G.of_laid hL) w0).mono fun e W' ⟨he, bel⟩ => ?_
  subst he
  exact ⟨_, rfl, _, _, _, [], _, [], hW', trodAll_mk1 (shut_bool Tryd.underlying4 _), (trodAll_cons_mk (Below.trod laidOut (by kernel_rfl) (of_decide_eq_true (by kernel_rfl)) k0 bel lt0) trodAll_mk0), rfl, bel.frame _, fun h => by cases h⟩

theorem over : Rows.entryRightRow.holds Tryd.pinned (OpenSpec.ofChange Rows.entryRightSpec) :=
  OpenClaim.holds_of_wide 3 Tryd.f3 rfl rfl rfl rfl rfl rfl rfl ⟨rfl, rfl, rfl, rfl, rfl⟩ rfl rfl rfl rfl rfl (by kernel_rfl) Tryd.func3 (by kernel_rfl)
    (of_decide_eq_true (by kernel_rfl)) (by unfold Func.isWrapper; rw [if_neg (of_decide_eq_false (by kernel_rfl))]; exact ⟨rfl, rfl⟩)
    (fun os started H enc _ => lifted os started H enc)
end Go.Proofs.YteokhedljfakkaaDoor.entryRight
namespace Go.Proofs.YteokhedljfakkaaDoor
open Go
set_option maxRecDepth 100000 in
theorem entryRight_holds : Rows.EntryRightCardSaid :=
  Claim7.holds_tied_plain_at .later [] [.handle] true (true, "ea097fe2469b743f1a729c095ad40ff6a90a1f5214a00ae1ffcd7e2b5f076a58") true
    entryRight.over (fun _ h => by cases h) (by kernel_rfl) (fun _ h => by cases h) entryRight_row_tie rfl ⟨rfl, rfl⟩ (by kernel_rfl) rfl
    (fun f fn hf hfn => by
      obtain rfl : f = 3 := Option.some.inj ((show Tryd.prog.funcNamed Rows.entryRightRow.func = some 3 by kernel_rfl).symm.trans hf) |>.symm
      obtain rfl : fn = Tryd.f3 := (Option.some.inj (Tryd.func3.symm.trans hfn)).symm
      exact ⟨by kernel_rfl, fun j t ht => by
        rw [Tryd.params3] at ht
        match j, ht with
        | 0, ht =>
          obtain rfl : t = 31 := by simpa using ht.symm
          exact (show Tryd.prog.wantsStandIn 31 = false by kernel_rfl)
        | j + 1, ht => simp at ht⟩)
    (by kernel_rfl)
#print axioms entryRight_holds
end Go.Proofs.YteokhedljfakkaaDoor
