/-
  EntryShards (P12.1, P12.3): for every transaction and every two numbers of Go's domain the law of chapter 12 answers true: which shards a right transaction (its lists cut to ten) involves, and its part in each, are as the document says; each read and write is in just one part. Conditions: those of the given statement alone; it is a tied card: package errors' own variable errorType lies as its text lays it.
-/
import Derived.Test.YteokhedljfakkaaDoorRows
import Derived.Test.YteokhedljfakkaaDoorCards
import Derived.Test.YteokhedljfakkaaDoorTie
import Derived.Test.YteokhedljfakkaaDoorDoor
import Derived.Test.YteokhedljfakkaaDoorEnX
import Derived.WalkKit
import Derived.ProofKit
import Derived.OpenShut
import Derived.ShutString
import Derived.ChangeOld
import Derived.Below
import Derived.SevenTiedAt
namespace Go.Proofs.YteokhedljfakkaaDoor.entryShards
open Go.ChangeShapes Go.WideShapes Go.ChangeAt Go.RowKit
open Go.ChangeMaps (open_string shut_string)
set_option linter.unusedSimpArgs false
set_option linter.unusedVariables false

theorem laidOut : laidOutB Tryd.prog = true := by kernel_rfl

theorem owns_same2 {w : World} {base n m g j : Nat} {e t : TypeId} {v u : Value} {xs : List Value} {cs : Array Value} (h : w.ownsRow base e n v m xs) (hg : w.heap[g]? = some (.cells cs t (0, 0))) (ht : t ≠ e) : (w.setCell ⟨g, j, none⟩ u).ownsRow base e n v m xs := by
  obtain ⟨h1, h2⟩ := h
  refine ⟨h1, ?_⟩
  rcases h2 with h2 | ⟨k, cap, cur, q1, q2, q3, q4⟩
  · exact .inl h2
  · refine .inr ⟨k, cap, cur, q1, q2, ?_, q4⟩
    have hne : k ≠ g := by
      intro e1
      subst e1
      rw [q3] at hg
      simp only [Option.some.injEq, Obj.cells.injEq] at hg
      exact ht hg.2.1.symm
    rw [Below.heap_setCell _ _ _ _ hne]
    exact q3
/-! The law returns true, and writes nothing that was there. -/
set_option maxRecDepth 100000 in
set_option maxHeartbeats 16000000 in
theorem walk (i0 : Txi) (a1 : Int) (a2 : Int) (w : World) (hg : G w) (w0 : i0.ok w) (w1 : (Lit.int .i64 a1).wf = true) (w2 : (Lit.int .i64 a2).wf = true) :
    Calls Tryd.prog 5 #[txiv i0, .int .i64 a1, .int .i64 a2] w fun e w' => e = .returned (.bool true) ∧ Below w.heap.size w w' := by
  obtain ⟨⟨t1, t2⟩, plain, ra, rn, rc, wa, wn, wc, R, W⟩ := i0
  have hR : Rds w ra rn R := w0.r
  have hW : Wrs w wa wn W := w0.w
  have hf : Fine (tenR rn R) (tenW wn W) := ⟨ten_keys w0.kr, ten_keysW w0.kw, ten_valsW w0.kw⟩
  have hmin : IntKind.u64.min = 0 := by decide
  have ht2 : 0 ≤ t2 := by have := w0.i2; simp [Lit.wf] at this; omega
  clear hmin
  have hl1 := tenR_length rn R
  have hl2 := tenW_length wn W
  clear w0 w1 w2
  have hb0 : Below w.heap.size w (w.alloc (.cells #[.int .i64 t1, .int .u64 t2, .bool plain, .slice ra rn rc, .slice wa wn wc] 28)) := (Below.refl _ _).alloc (Nat.le_refl _) _
  have hcall := our_any (t1, t2) plain ra rn rc wa wn wc R W (w.alloc (.cells #[.int .i64 t1, .int .u64 t2, .bool plain, .slice ra rn rc, .slice wa wn wc] 28)) (hR.later hb0) (hW.later hb0)
  generalize tenR rn R = l1 at *
  generalize tenW wn W = l2 at *
  clear hR hW
  have HL1 : Hid (l1.length ≤ 10) := hl1
  have HL2 : Hid (l2.length ≤ 10) := hl2
  have HFI : Hid (Fine l1 l2) := hf
  clear hl1 hl2 hf
  go_enter Tryd.func5, Tryd.ntmps5
  go_wp2_with fail
  generalize w.alloc (.cells #[.int .i64 t1, .int .u64 t2, .bool plain, .slice ra rn rc, .slice wa wn wc] 28) = w0 at *
  refine hcall.mono ?_
  clear hcall
  rintro e w1 ⟨⟨v1, v2, rfl, ho1, ho2⟩, hb1⟩
  have HB1 : Hid (Below w.heap.size w w1) := hb0.trans (hb1.mono hb0.size)
  obtain ⟨xa, xn, xc, rfl⟩ := owns_slice ho1
  obtain ⟨ya, yn, yc, rfl⟩ := owns_slice ho2
  have htx : Tx w1 w0.heap.size xa xn xc ya yn yc l1 l2 := ⟨ho1, ho2, HFI.out, Nat.le_trans HL1.out (by omega), Nat.le_trans HL2.out (by omega), owns_len ho1, owns_len ho2⟩
  clear ho1 ho2 hb0 hb1
  have hb2 : Below w1.heap.size w1 (w1.alloc (.cells #[.int .i64 t1, .int .u64 t2, .bool plain, .slice xa xn xc, .slice ya yn yc] 35)) := (Below.refl _ _).alloc (Nat.le_refl _) _
  have hn2 := heap_alloc_new w1 (.cells #[.int .i64 t1, .int .u64 t2, .bool plain, .slice xa xn xc, .slice ya yn yc] 35)
  go_upto_region 2 with fail
  generalize w1.alloc (.cells #[.int .i64 t1, .int .u64 t2, .bool plain, .slice xa xn xc, .slice ya yn yc] 35) = w2 at *
  have HB2 : Hid (Below w.heap.size w w2) := HB1.out.trans (hb2.mono HB1.out.size)
  have HTX2 : Hid (Tx w2 w0.heap.size xa xn xc ya yn yc l1 l2) := htx.later hb2
  have HN2 : Hid (w2.heap[w1.heap.size]? = some (.cells #[.int .i64 t1, .int .u64 t2, .bool plain, .slice xa xn xc, .slice ya yn yc] 35)) := hn2
  clear hb2 hn2 htx HB1
  generalize w1.heap.size = px at *
  obtain ⟨x0, x1, x2, x3, x4⟩ := five_cells HN2.out
  have hcall := plain_any (t1, t2) plain w0.heap.size (.slice xa xn xc) (.slice ya yn yc) l1 l2 w2 HTX2.out.r HTX2.out.w HL1.out HL2.out
  go_wp2_with fail
  refine hcall.mono ?_
  clear hcall x0 x1 x2 x3 x4
  rintro e w3 ⟨⟨v3, v4, rfl, ho3, ho4⟩, hb3⟩
  obtain ⟨za, zn, zc, rfl⟩ := owns_slice ho3
  obtain ⟨qa, qn, qc, rfl⟩ := owns_slice ho4
  have htr : Ty w3 w2.heap.size za zn zc qa qn qc l1 l2 := ⟨ho3, ho4, HFI.out, HL1.out, HL2.out⟩
  have HB3 : Hid (Below w.heap.size w w3) := HB2.out.trans (hb3.mono HB2.out.size)
  have HTX3 : Hid (Tx w3 w0.heap.size xa xn xc ya yn yc l1 l2) := HTX2.out.later hb3
  have HN3 : Hid (w3.heap[px]? = some (.cells #[.int .i64 t1, .int .u64 t2, .bool plain, .slice xa xn xc, .slice ya yn yc] 35)) := keepc hb3 HN2.out
  clear ho3 ho4 hb3 HB2 HTX2 HN2
  have hb4 : Below w3.heap.size w3 (w3.alloc (.cells #[.int .i64 t1, .int .u64 t2, .bool plain, .slice za zn zc, .slice qa qn qc] 28)) := (Below.refl _ _).alloc (Nat.le_refl _) _
  have hn4 := heap_alloc_new w3 (.cells #[.int .i64 t1, .int .u64 t2, .bool plain, .slice za zn zc, .slice qa qn qc] 28)
  go_upto_region 3 with fail
  generalize w3.alloc (.cells #[.int .i64 t1, .int .u64 t2, .bool plain, .slice za zn zc, .slice qa qn qc] 28) = w4 at *
  have HB4 : Hid (Below w.heap.size w w4) := HB3.out.trans (hb4.mono HB3.out.size)
  have HTX4 : Hid (Tx w4 w0.heap.size xa xn xc ya yn yc l1 l2) := HTX3.out.later hb4
  have HTY4 : Hid (Ty w4 w2.heap.size za zn zc qa qn qc l1 l2) := htr.later hb4
  have HX4 : Hid (w4.heap[px]? = some (.cells #[.int .i64 t1, .int .u64 t2, .bool plain, .slice xa xn xc, .slice ya yn yc] 35)) := keepc hb4 HN3.out
  have HW4 : Hid (w4.heap[w3.heap.size]? = some (.cells #[.int .i64 t1, .int .u64 t2, .bool plain, .slice za zn zc, .slice qa qn qc] 28)) := hn4
  clear hb4 htr HB3 HTX3 HN3 hn4
  generalize w3.heap.size = pw at *
  obtain ⟨y0, y1, y2, y3, y4⟩ := five_cells HW4.out
  have hcall := ref_rightTxn_any (t1, t2) plain w2.heap.size (.slice za zn zc) (.slice qa qn qc) l1 l2 w4 HTY4.out.r HTY4.out.w ht2 HL1.out HL2.out HFI.out.r (fun x hx => ⟨HFI.out.k x hx, HFI.out.v x hx⟩)
  obtain ⟨rt, hrt⟩ : ∃ rt, rt = rtxn (t1, t2) plain l1 l2 := ⟨_, rfl⟩
  rw [← hrt] at hcall
  clear hrt
  go_wp2_with fail
  refine hcall.mono ?_
  clear hcall y0 y1 y2 y3 y4
  rintro e w5 ⟨rfl, hb5⟩
  have HB5 : Hid (Below w.heap.size w w5) := HB4.out.trans (hb5.mono HB4.out.size)
  have HTX5 : Hid (Tx w5 w0.heap.size xa xn xc ya yn yc l1 l2) := HTX4.out.later hb5
  have HTY5 : Hid (Ty w5 w2.heap.size za zn zc qa qn qc l1 l2) := HTY4.out.later hb5
  have HX5 : Hid (w5.heap[px]? = some (.cells #[.int .i64 t1, .int .u64 t2, .bool plain, .slice xa xn xc, .slice ya yn yc] 35)) := keepc hb5 HX4.out
  have HW5 : Hid (w5.heap[pw]? = some (.cells #[.int .i64 t1, .int .u64 t2, .bool plain, .slice za zn zc, .slice qa qn qc] 28)) := keepc hb5 HW4.out
  clear HB4 HTX4 HTY4 HX4 HW4
  clear hb5
  cases rt with
  | false =>
    go_wp2_with fail
    refine (awake12_any w5).mono ?_
    rintro e w6 ⟨rfl, hb6⟩
    have HF : Hid (Below w.heap.size w w6) := HB5.out.trans (hb6.mono HB5.out.size)
    clear hb6
    go_wp2
    go_ret
    exact ⟨rfl, HF.out⟩
  | true =>
    go_upto_region 5 with fail
    obtain ⟨x0, x1, x2, x3, x4⟩ := five_cells HX5.out
    obtain ⟨y0, y1, y2, y3, y4⟩ := five_cells HW5.out
    have HS : Hid (∀ w', Below w5.heap.size w5 w' → w'.cell? ⟨px, 0, none⟩ = some (.int .i64 t1) ∧ w'.cell? ⟨px, 1, none⟩ = some (.int .u64 t2) ∧ w'.cell? ⟨px, 2, none⟩ = some (.bool plain) ∧ w'.cell? ⟨px, 3, none⟩ = some (.slice xa xn xc) ∧ w'.cell? ⟨px, 4, none⟩ = some (.slice ya yn yc) ∧ w'.cell? ⟨pw, 0, none⟩ = some (.int .i64 t1) ∧ w'.cell? ⟨pw, 1, none⟩ = some (.int .u64 t2) ∧ w'.cell? ⟨pw, 2, none⟩ = some (.bool plain) ∧ w'.cell? ⟨pw, 3, none⟩ = some (.slice za zn zc) ∧ w'.cell? ⟨pw, 4, none⟩ = some (.slice qa qn qc)) := fun w' hb => ⟨cell_later hb x0, cell_later hb x1, cell_later hb x2, cell_later hb x3, cell_later hb x4, cell_later hb y0, cell_later hb y1, cell_later hb y2, cell_later hb y3, cell_later hb y4⟩
    clear x0 x1 x2 x3 x4 y0 y1 y2 y3 y4
    have hu0 : Below w5.heap.size w5 w5.drew := (Below.refl _ _).drew
    have HKL : Hid ((tkeys l1 l2).length ≤ 1000) := by have h1 := HL1.out; have h2 := HL2.out; simp [Hid, tkeys]; omega
    refine wp_region_noPanic ?_
    refine wp_region_held_drew (S := (fun w' => w'.cell? ⟨px, 0, none⟩ = some (.int .i64 t1) ∧ w'.cell? ⟨px, 1, none⟩ = some (.int .u64 t2) ∧ w'.cell? ⟨px, 2, none⟩ = some (.bool plain) ∧ w'.cell? ⟨px, 3, none⟩ = some (.slice xa xn xc) ∧ w'.cell? ⟨px, 4, none⟩ = some (.slice ya yn yc) ∧ w'.cell? ⟨pw, 0, none⟩ = some (.int .i64 t1) ∧ w'.cell? ⟨pw, 1, none⟩ = some (.int .u64 t2) ∧ w'.cell? ⟨pw, 2, none⟩ = some (.bool plain) ∧ w'.cell? ⟨pw, 3, none⟩ = some (.slice za zn zc) ∧ w'.cell? ⟨pw, 4, none⟩ = some (.slice qa qn qc))) (by kernel_rfl) ?_ (fun hHeld => ?_)
    · exact HS.out _ hu0
    refine held_take (i := 0) (d := 32) (v := ?_) rfl rfl (by kernel_rfl) (by kernel_rfl) (by kernel_rfl) (fun _ _ _ h => h) (Or.inl ⟨by rfl, ?_⟩) hHeld ?_
    rotate_left
    · (intro w hSw; (try dsimp only at hSw); go_simp; all_goals (with_reducible rfl))
    try simp only [Act.put, List.setIfInBounds_toArray, List.set_cons_zero, List.set_cons_succ]
    refine held_take (i := 1) (d := 33) (v := ?_) rfl rfl (by kernel_rfl) (by kernel_rfl) (by kernel_rfl) (fun _ _ _ h => h) (Or.inl ⟨by rfl, ?_⟩) hHeld ?_
    rotate_left
    · (intro w hSw; (try dsimp only at hSw); go_simp; all_goals (with_reducible rfl))
    try simp only [Act.put, List.setIfInBounds_toArray, List.set_cons_zero, List.set_cons_succ]
    refine held_take (i := 3) (d := 35) (v := ?_) rfl rfl (by kernel_rfl) (by kernel_rfl) (by kernel_rfl) (fun _ _ _ h => h) (Or.inl ⟨by rfl, ?_⟩) hHeld ?_
    rotate_left
    · (intro w hSw; (try dsimp only at hSw); go_simp; all_goals (with_reducible rfl))
    try simp only [Act.put, List.setIfInBounds_toArray, List.set_cons_zero, List.set_cons_succ]
    refine held_take (i := 5) (d := 37) (v := ?_) rfl rfl (by kernel_rfl) (by kernel_rfl) (by kernel_rfl) (fun _ _ _ h => h) (Or.inl ⟨by rfl, ?_⟩) hHeld ?_
    rotate_left
    · (intro w hSw; (try dsimp only at hSw); go_simp; all_goals (with_reducible rfl))
    try simp only [Act.put, List.setIfInBounds_toArray, List.set_cons_zero, List.set_cons_succ]
    refine wpAnyH_ready (rs := [2]) (by kernel_rfl) (by simp) ?_
    refine AllReadyH.cons rfl (fun K hK => ?_) AllReadyH.nil
    go_simp
    have hq := eshards_any (t1, t2) plain w0.heap.size xa xn xc ya yn yc l1 l2 a1 w5.drew (HTX5.out.later hu0) HL1.out HL2.out
    refine hq.mono ?_
    clear hq
    rintro e u1 ⟨⟨v5, rfl, ho5⟩, hx⟩
    have hu1 : Below w5.heap.size w5 u1 := hu0.trans hx
    obtain ⟨la, lc, rfl, hli⟩ := ints_of_own ho5
    have HLI1 : Hid (Ints u1 la (selN (inn (tkeys l1 l2) a1))) := hli
    clear hx ho5 hli
    go_wp2_with fail
    refine hK.out _ _ ?_ (fun hHeld => ?_)
    · exact HS.out _ hu1
    clear hK K
    try simp only [Act.put, List.setIfInBounds_toArray, List.set_cons_zero, List.set_cons_succ]
    refine wpAnyH_ready (rs := [4]) (by kernel_rfl) (by simp) ?_
    refine AllReadyH.cons rfl (fun K hK => ?_) AllReadyH.nil
    go_simp
    have hq := rkeys_let (t1, t2) plain w2.heap.size za zn zc qa qn qc l1 l2 u1 (HTY5.out.later hu1)
    refine hq.mono ?_
    clear hq
    rintro e u2 ⟨⟨v6, rfl, ho6⟩, hx⟩
    have hu2 : Below w5.heap.size w5 u2 := hu1.trans (hx.mono hu1.size)
    have HLI2 : Hid (Ints u2 la (selN (inn (tkeys l1 l2) a1))) := HLI1.out.later hx
    obtain ⟨ka, kc, rfl, hks⟩ := strs_of_own ho6 (tkeys_fine HFI.out) HKL.out
    have HKS : Hid (Strs u2 ka (tkeys l1 l2).length (tkeys l1 l2)) := hks
    clear hx ho6 hks HLI1
    go_wp2_with fail
    refine hK.out _ _ ?_ (fun hHeld => ?_)
    · exact HS.out _ hu2
    clear hK K
    try simp only [Act.put, List.setIfInBounds_toArray, List.set_cons_zero, List.set_cons_succ]
    refine wpAnyH_ready (rs := [6]) (by kernel_rfl) (by simp) ?_
    refine AllReadyH.cons rfl (fun K hK => ?_) AllReadyH.nil
    go_simp
    have hq := ref_shards_any ka (tkeys l1 l2).length kc (tkeys l1 l2) a1 u2 HKS.out
    refine hq.mono ?_
    clear hq
    rintro e u3 ⟨v7, rfl, ho7, hx⟩
    have hu3 : Below w5.heap.size w5 u3 := hu2.trans (hx.mono hu2.size)
    have HLI3 : Hid (Ints u3 la (selN (inn (tkeys l1 l2) a1))) := HLI2.out.later hx
    obtain ⟨ma, mc, rfl, hmi⟩ := ints_of_own ho7
    have HMI3 : Hid (Ints u3 ma (selN (inn (tkeys l1 l2) a1))) := hmi
    clear hx ho7 hmi HLI2 HKS
    go_wp2_with fail
    refine hK.out _ _ ?_ (fun hHeld => ?_)
    · exact HS.out _ hu3
    clear hK K
    try simp only [Act.put, List.setIfInBounds_toArray, List.set_cons_zero, List.set_cons_succ]
    refine held_take (i := 7) (d := 9) (v := ?_) rfl rfl (by kernel_rfl) (by kernel_rfl) (by kernel_rfl) (fun _ _ _ h => h) (Or.inl ⟨by rfl, ?_⟩) hHeld ?_
    rotate_left
    · (intro w hSw; (try dsimp only at hSw); go_simp; all_goals (with_reducible rfl))
    try simp only [Act.put, List.setIfInBounds_toArray, List.set_cons_zero, List.set_cons_succ]
    refine held_take (i := 8) (d := 10) (v := ?_) rfl rfl (by kernel_rfl) (by kernel_rfl) (by kernel_rfl) (fun _ _ _ h => h) (Or.inl ⟨by rfl, ?_⟩) hHeld ?_
    rotate_left
    · (intro w hSw; (try dsimp only at hSw); go_simp; all_goals (with_reducible rfl))
    try simp only [Act.put, List.setIfInBounds_toArray, List.set_cons_zero, List.set_cons_succ]
    refine wpAnyH_done (by kernel_rfl) ?_ _
    refine NoPanic.normal ?_
    clear hHeld HS hu0 hu1 hu2
    generalize u3 = w6 at *
    have HB6 : Hid (Below w.heap.size w w6) := HB5.out.trans (hu3.mono HB5.out.size)
    have HTX6 : Hid (Tx w6 w0.heap.size xa xn xc ya yn yc l1 l2) := HTX5.out.later hu3
    have HTY6 : Hid (Ty w6 w2.heap.size za zn zc qa qn qc l1 l2) := HTY5.out.later hu3
    have HX6 : Hid (w6.heap[px]? = some (.cells #[.int .i64 t1, .int .u64 t2, .bool plain, .slice xa xn xc, .slice ya yn yc] 35)) := keepc hu3 HX5.out
    have HW6 : Hid (w6.heap[pw]? = some (.cells #[.int .i64 t1, .int .u64 t2, .bool plain, .slice za zn zc, .slice qa qn qc] 28)) := keepc hu3 HW5.out
    clear HB5 HTX5 HTY5 HX5 HW5
    have HSP : Hid (∀ x, x ∈ selN (inn (tkeys l1 l2) a1) → 0 < (partR a1 x l1).length + (partW a1 x l2).length) := fun x hx => part_pos hx
    have HSR : Hid (sumR a1 (selN (inn (tkeys l1 l2) a1)) l1 = l1.length ∧ sumW a1 (selN (inn (tkeys l1 l2) a1)) l2 = l2.length) := ⟨sumR_all a1 l1 l2, sumW_all a1 l1 l2⟩
    have hS4 := selN_len (inn (tkeys l1 l2) a1)
    have HTK : Hid ((tkeys l1 l2).length = l1.length + l2.length) := by simp [Hid, tkeys]
    generalize tkeys l1 l2 = ks at *
    generalize selN (inn ks a1) = SN at *
    generalize hLL : SN.length = L at *
    have HLL : Hid (SN.length = L) := hLL
    clear hLL hu3
    have hLne : ((L : Int) != (L : Int)) = false := by simp
    go_wp2
    clear hLne
    go_loopw [11, 12, 46] (fun x y i wr => ∃ k p q : Nat, k ≤ L ∧ i = .int .i64 (k : Nat) ∧ x = .int .i64 (p : Nat) ∧ y = .int .i64 (q : Nat) ∧ p ≤ 10 * k ∧ q ≤ 10 * k ∧ Hid (p = sumR a1 (SN.take k) l1 ∧ q = sumW a1 (SN.take k) l2 ∧ Below w6.heap.size w6 wr)) (fun _ _ i _ => L - (intOf i).toNat)
    case atStart => exact ⟨0, 0, 0, Nat.zero_le _, rfl, rfl, rfl, by omega, by omega, by simp [sumR], by simp [sumW], Below.refl _ _⟩
    case round =>
      obtain ⟨k, p, q, hk, rfl, rfl, rfl, hp, hq, HI⟩ := hrel
      obtain ⟨hp2, hq2, hbr⟩ := HI.out
      have HBR : Hid (Below w6.heap.size w6 wr) := hbr
      by_cases hlt : k < L
      · have hkl : k < SN.length := by rw [HLL.out]; exact hlt
        obtain ⟨x, hx⟩ : ∃ x, SN[k]? = some x := ⟨_, List.getElem?_eq_getElem hkl⟩
        obtain ⟨g1, rfl, c0⟩ := (HLI3.out.later hbr) k x hx
        obtain ⟨g2, rfl, c1⟩ := (HMI3.out.later hbr) k x hx
        have HPP : Hid (0 < (partR a1 x l1).length + (partW a1 x l2).length) := HSP.out x (List.mem_of_getElem? hx)
        have HN1 : Hid (sumR a1 (SN.take (k + 1)) l1 = p + (partR a1 x l1).length ∧ sumW a1 (SN.take (k + 1)) l2 = q + (partW a1 x l2).length) := ⟨by rw [sumR_next l1 hx, ← hp2], by rw [sumW_next l2 hx, ← hq2]⟩
        obtain ⟨x0, x1, x2, x3, x4⟩ := five_cells (keepc hbr HX6.out)
        have hcall := part_any (t1, t2) plain w0.heap.size xa xn xc ya yn yc l1 l2 (x : Int) a1 wr (HTX6.out.later hbr) HL1.out HL2.out
        have hxne : ((x : Int) != (x : Int)) = false := by simp
        have hk0 : (0 : Int) ≤ (k : Int) := by omega
        clear hp2 hq2 hbr HI hx hkl
        go_wp2_with fail
        refine hcall.mono ?_
        clear hcall x0 x1 x2 x3 x4 c0
        rintro e wx ⟨⟨u1, u2, rfl, ho1, ho2⟩, hbx⟩
        obtain ⟨fa, fn, fc, rfl⟩ := owns_slice ho1
        obtain ⟨ga, gn, gc, rfl⟩ := owns_slice ho2
        have e1 := owns_len ho1
        have e2 := owns_len ho2
        have hfn : fn ≤ 10 := by rw [e1]; exact Nat.le_trans (partR_le _ _ _) HL1.out
        have hgn : gn ≤ 10 := by rw [e2]; exact Nat.le_trans (partW_le _ _ _) HL2.out
        have hpos : 0 < fn + gn := by rw [e1, e2]; exact HPP.out
        have HNX : Hid (sumR a1 (SN.take (k + 1)) l1 = p + fn ∧ sumW a1 (SN.take (k + 1)) l2 = q + gn) := by rw [e1, e2]; exact HN1.out
        have HBX : Hid (Below w6.heap.size w6 wx) := HBR.out.trans (hbx.mono HBR.out.size)
        have c1 := cell_later hbx c1
        have hsum : (((fn : Int) + (gn : Int)) == 0) = false := by rw [beq_eq_false_iff_ne]; omega
        clear e1 e2 ho1 ho2 hbx HN1 HPP
        go_wp2
        go_roundw
        case rel => exact ⟨k + 1, p + fn, q + gn, by omega, by go_num, by go_num, by go_num, by omega, by omega, HNX.out.1.symm, HNX.out.2.symm, HBX.out⟩
        case measure => simp [intOf]; omega
      · obtain rfl : k = L := by omega
        have hpl : p = l1.length ∧ q = l2.length := by
          rw [List.take_of_length_le (by rw [HLL.out]; exact Nat.le_refl _)] at hp2 hq2
          exact ⟨hp2.trans HSR.out.1, hq2.trans HSR.out.2⟩
        have HPL : Hid (p = l1.length ∧ q = l2.length) := hpl
        have hp10 : p ≤ 10 := by rw [hpl.1]; exact HL1.out
        have hq10 : q ≤ 10 := by rw [hpl.2]; exact HL2.out
        clear hpl hp2 hq2 HI HSR HSP HLI3 HMI3 hp hq
        generalize wr = w7 at *
        have HB7 : Hid (Below w.heap.size w w7) := HB6.out.trans (hbr.mono HB6.out.size)
        have HTX7 : Hid (Tx w7 w0.heap.size xa xn xc ya yn yc l1 l2) := HTX6.out.later hbr
        have HTY7 : Hid (Ty w7 w2.heap.size za zn zc qa qn qc l1 l2) := HTY6.out.later hbr
        have HX7 : Hid (w7.heap[px]? = some (.cells #[.int .i64 t1, .int .u64 t2, .bool plain, .slice xa xn xc, .slice ya yn yc] 35)) := keepc hbr HX6.out
        have HW7 : Hid (w7.heap[pw]? = some (.cells #[.int .i64 t1, .int .u64 t2, .bool plain, .slice za zn zc, .slice qa qn qc] 28)) := keepc hbr HW6.out
        clear HB6 HTX6 HTY6 HX6 HW6
        obtain ⟨x0, x1, x2, x3, x4⟩ := five_cells HX7.out
        have hcall := part_any (t1, t2) plain w0.heap.size xa xn xc ya yn yc l1 l2 a2 a1 w7 HTX7.out HL1.out HL2.out
        clear HBR hbr
        go_wp2_with fail
        refine hcall.mono ?_
        clear hcall x0 x1 x2 x3 x4
        rintro e w8 ⟨⟨u1, u2, rfl, ho1, ho2⟩, hb8⟩
        obtain ⟨fa, fn, fc, rfl⟩ := owns_slice ho1
        obtain ⟨ga, gn, gc, rfl⟩ := owns_slice ho2
        have HPT8 : Hid (w8.ownsRow w7.heap.size 79 2 (.slice fa fn fc) (partR a1 a2 l1).length ((partR a1 a2 l1).flatMap Rdv.cells) ∧ w8.ownsRow w7.heap.size 80 3 (.slice ga gn gc) (partW a1 a2 l2).length ((partW a1 a2 l2).flatMap Wrv.cells)) := ⟨ho1, ho2⟩
        have HB8 : Hid (Below w.heap.size w w8) := HB7.out.trans (hb8.mono HB7.out.size)
        have HTX8 : Hid (Tx w8 w0.heap.size xa xn xc ya yn yc l1 l2) := HTX7.out.later hb8
        have HTY8 : Hid (Ty w8 w2.heap.size za zn zc qa qn qc l1 l2) := HTY7.out.later hb8
        have HX8 : Hid (w8.heap[px]? = some (.cells #[.int .i64 t1, .int .u64 t2, .bool plain, .slice xa xn xc, .slice ya yn yc] 35)) := keepc hb8 HX7.out
        have HW8 : Hid (w8.heap[pw]? = some (.cells #[.int .i64 t1, .int .u64 t2, .bool plain, .slice za zn zc, .slice qa qn qc] 28)) := keepc hb8 HW7.out
        clear HB7 HTX7 HTY7 HX7 HW7
        clear hb8 ho1 ho2
        have hb9 : Below w8.heap.size w8 (w8.alloc (.cells #[.int .i64 0, .int .u64 0, .bool false, .slice none 0 0, .slice none 0 0] 28)) := (Below.refl _ _).alloc (Nat.le_refl _) _
        have hn9 := heap_alloc_new w8 (.cells #[.int .i64 0, .int .u64 0, .bool false, .slice none 0 0, .slice none 0 0] 28)
        go_upto_region 20 with fail
        generalize w8.alloc (.cells #[.int .i64 0, .int .u64 0, .bool false, .slice none 0 0, .slice none 0 0] 28) = w9 at *
        have HN9 : Hid (w9.heap[w8.heap.size]? = some (.cells #[.int .i64 0, .int .u64 0, .bool false, .slice none 0 0, .slice none 0 0] 28)) := hn9
        have HB89 : Hid (Below w8.heap.size w8 w9) := hb9
        clear hb9 hn9
        have HRD : Hid (Rds w8 za zn (fun i => l1[i]?.getD ⟨⟨#[]⟩, 0⟩)) := by
          obtain ⟨a, c, e, h⟩ := owns_rds HTY8.out.r ⟨⟨#[]⟩, 0⟩
          simp only [Value.slice.injEq] at e
          obtain ⟨rfl, rfl, rfl⟩ := e
          exact h
        have HWD : Hid (Wrs w8 qa qn (fun i => l2[i]?.getD ⟨⟨#[]⟩, ⟨#[]⟩, false⟩)) := by
          obtain ⟨a, c, e, h⟩ := owns_wrs HTY8.out.w ⟨⟨#[]⟩, ⟨#[]⟩, false⟩
          simp only [Value.slice.injEq] at e
          obtain ⟨rfl, rfl, rfl⟩ := e
          exact h
        have HZN : Hid (zn = l1.length ∧ qn = l2.length) := ⟨owns_len HTY8.out.r, owns_len HTY8.out.w⟩
        have hzn : zn ≤ 10 := by rw [HZN.out.1]; exact HL1.out
        have hqn : qn ≤ 10 := by rw [HZN.out.2]; exact HL2.out
        obtain ⟨y0, y1, y2, y3, y4⟩ := five_cells (keepc HB89.out HW8.out)
        obtain ⟨po, hpo⟩ : ∃ po, po = w8.heap.size := ⟨_, rfl⟩
        have HPO : Hid (po = w8.heap.size) := hpo
        rw [← hpo] at HN9
        rw [← hpo]
        clear hpo
        clear y0 y1 y2 y4
        go_wp2
        clear y3
        go_loopw [91] (fun i wr => ∃ (k : Nat) (va : Option Addr) (vn vc : Nat), k ≤ zn ∧ i = .int .i64 (k : Nat) ∧ Hid (wr.heap[po]? = some (.cells #[.int .i64 0, .int .u64 0, .bool false, (.slice va vn vc), .slice none 0 0] 28) ∧ wr.ownsRow po 66 2 (.slice va vn vc) (partR a1 a2 (l1.take k)).length ((partR a1 a2 (l1.take k)).flatMap Rdv.cells) ∧ Below po w8 wr)) (fun i _ => zn - (intOf i).toNat)
        case atStart => exact ⟨0, _, _, _, Nat.zero_le _, rfl, HN9.out, World.ownsRow_nil _ _ _ _, HB89.out.mono (by rw [HPO.out]; exact Nat.le_refl _)⟩
        case round =>
          clear HN9 HB89
          obtain ⟨k, va, vn, vc, hk, rfl, HI⟩ := hrel
          have hpoh := HI.out.1
          have hown := HI.out.2.1
          have hbr := HI.out.2.2
          have hpol : po < wr.heap.size := (Array.getElem?_eq_some_iff.1 hpoh).1
          have HPOL : Hid (po < wr.heap.size) := hpol
          by_cases hlt : k < zn
          · obtain ⟨b, off, rfl, hc⟩ := (HRD.out.later (hbr.mono (by rw [HPO.out]; exact Nat.le_refl _))).at (by omega)
            obtain ⟨d0, d1⟩ := hc k hlt
            clear hc
            have hkl : k < l1.length := by rw [← HZN.out.1]; exact hlt
            have hx : l1[k]? = some (l1[k]?.getD ⟨⟨#[]⟩, 0⟩) := by rw [List.getElem?_eq_getElem hkl]; rfl
            generalize l1[k]?.getD ⟨⟨#[]⟩, 0⟩ = x at d0 d1 hx
            have hxs : x.key.size ≤ maxLen := HFI.out.r _ (List.mem_of_getElem? hx)
            have HNX : Hid (partR a1 a2 (l1.take (k + 1)) = partR a1 a2 (l1.take k) ++ (if ((shard x.key a1 : Nat) : Int) == a2 then [x] else [])) := partR_next hx
            have hll : (partR a1 a2 (l1.take k)).length ≤ 10 := Nat.le_trans (partR_le a1 a2 _) (Nat.le_trans (by rw [List.length_take]; exact Nat.min_le_right _ _) HL1.out)
            obtain ⟨xk, xm⟩ := x
            simp only at d0 d1 hxs
            have hcall := ref_shard_any xk a1 (wr.alloc (.cells #[.string xk, .int .u64 xm] 66)) hxs
            obtain ⟨sh, hsh⟩ : ∃ sh : Nat, sh = shard xk a1 := ⟨_, rfl⟩
            simp only [← hsh] at hcall HNX
            clear hsh hx hkl
            by_cases hs : (sh : Int) = a2
            · have hse : ((sh : Int) == a2) = true := by simp [hs]
              have HEQ : Hid (partR a1 a2 (l1.take (k + 1)) = partR a1 a2 (l1.take k) ++ [(⟨xk, xm⟩ : Rdv)]) := by have := HNX.out; rw [hse] at this; exact this
              clear HNX hs
              have hb3 : Below wr.heap.size wr ((wr.alloc (.cells #[.string xk, .int .u64 xm] 66)).alloc (.cells #[.string xk, .int .u64 xm] 66)) := ((Below.refl _ _).alloc (Nat.le_refl _) _).alloc (by simp) _
              have hg3 := heap_alloc_new (wr.alloc (.cells #[.string xk, .int .u64 xm] 66)) (.cells #[.string xk, .int .u64 xm] 66)
              rw [World.size_alloc] at hg3
              have hc3 := news_one Rdv.cells ⟨xk, xm⟩ hg3 rfl
              have t2 := owns_later hown hb3
              have g3 : ((wr.alloc (.cells #[.string xk, .int .u64 xm] 66)).alloc (.cells #[.string xk, .int .u64 xm] 66)).heap[po]? = some (.cells #[.int .i64 0, .int .u64 0, .bool false, (.slice va vn vc), .slice none 0 0] 28) := keepc hb3 hpoh
              have o3 : wr.cell? ⟨po, 3, none⟩ = some (.slice va vn vc) := cell_of_heap hpoh rfl
              have HB3 : Hid (Below po w8 ((wr.alloc (.cells #[.string xk, .int .u64 xm] 66)).alloc (.cells #[.string xk, .int .u64 xm] 66))) := hbr.trans (hb3.mono (Nat.le_of_lt hpol))
              have hbs : po ≤ ((wr.alloc (.cells #[.string xk, .int .u64 xm] 66)).alloc (.cells #[.string xk, .int .u64 xm] 66)).heap.size := Nat.le_trans (Nat.le_of_lt hpol) hb3.size
              have HOK : Hid (∀ v2 w2, w2.ownsRow po 66 2 v2 (partR a1 a2 (l1.take k) ++ [(⟨xk, xm⟩ : Rdv)]).length ((partR a1 a2 (l1.take k) ++ [(⟨xk, xm⟩ : Rdv)]).flatMap Rdv.cells) → ((wr.alloc (.cells #[.string xk, .int .u64 xm] 66)).alloc (.cells #[.string xk, .int .u64 xm] 66)).grownBy w2 (Value.slice va vn vc).ownBlock → w2.frozen? ⟨po, 3, none⟩ = false ∧ w2.cell? ⟨po, 3, none⟩ = some (.slice va vn vc) ∧ (w2.setCell ⟨po, 3, none⟩ v2).heap[po]? = some (.cells #[.int .i64 0, .int .u64 0, .bool false, v2, .slice none 0 0] 28) ∧ (w2.setCell ⟨po, 3, none⟩ v2).ownsRow po 66 2 v2 (partR a1 a2 (l1.take k) ++ [(⟨xk, xm⟩ : Rdv)]).length ((partR a1 a2 (l1.take k) ++ [(⟨xk, xm⟩ : Rdv)]).flatMap Rdv.cells) ∧ Below po w8 (w2.setCell ⟨po, 3, none⟩ v2)) := by
                intro v2 w2 q1 q2
                obtain ⟨r1, r2⟩ := put_beside 3 g3 (by decide) t2 q2 q1
                refine ⟨frozen_of_row w2 _ _ _ _ r1, cell_of_heap r1 rfl, five_set3 r1, r2, (HB3.out.grown q2 hbs (fun j hj => (World.ownsRow.lt t2 j hj).1)).setCell (Nat.le_refl _) _⟩
              clear hg3 g3 hpoh hown hbr HI hb3
              generalize partR a1 a2 (l1.take k) = LL at *
              go_wp2_with fail
              refine hcall.mono ?_
              clear hcall
              rintro e w' ⟨rfl, hw⟩
              subst hw
              go_wp2_with (at_builtin; refine wp_append_els Rdv.cells 2 24 25 66 _ Tryd.underlying25 Tryd.info_66 rfl (by decide) (fun _ => rfl) (by decide) rfl _ _ rfl po _ LL rfl t2 _ 1 1 [(⟨xk, xm⟩ : Rdv)] rfl rfl hc3 (Rdv.one _) (by decide) (by omega) hbs ?_; intro v2 w2 ho2 hg2 hv2; obtain ⟨qa2, qn2, qc2, rfl⟩ := owns_slice ho2; have hok := HOK.out _ w2 ho2 hg2; have z0 := hok.1; have z1 := hok.2.1; have HF : Hid ((w2.setCell ⟨po, 3, none⟩ (.slice qa2 qn2 qc2)).heap[po]? = some (.cells #[.int .i64 0, .int .u64 0, .bool false, (.slice qa2 qn2 qc2), .slice none 0 0] 28) ∧ (w2.setCell ⟨po, 3, none⟩ (.slice qa2 qn2 qc2)).ownsRow po 66 2 (.slice qa2 qn2 qc2) (LL ++ [(⟨xk, xm⟩ : Rdv)]).length ((LL ++ [(⟨xk, xm⟩ : Rdv)]).flatMap Rdv.cells) ∧ Below po w8 (w2.setCell ⟨po, 3, none⟩ (.slice qa2 qn2 qc2))) := hok.2.2; clear hok ho2 hg2 hv2)
              go_roundw
              case rel => exact ⟨k + 1, _, _, _, by omega, by go_num, by rw [HEQ.out]; exact HF.out⟩
              case measure => simp [intOf]; omega
            · have hse : ((sh : Int) == a2) = false := by simp [hs]
              have HEQ : Hid (partR a1 a2 (l1.take (k + 1)) = partR a1 a2 (l1.take k)) := by have := HNX.out; rw [hse] at this; rw [Hid]; simpa using this
              clear HNX hs
              have hbx : Below wr.heap.size wr (wr.alloc (.cells #[.string xk, .int .u64 xm] 66)) := (Below.refl _ _).alloc (Nat.le_refl _) _
              have HF : Hid ((wr.alloc (.cells #[.string xk, .int .u64 xm] 66)).heap[po]? = some (.cells #[.int .i64 0, .int .u64 0, .bool false, (.slice va vn vc), .slice none 0 0] 28) ∧ (wr.alloc (.cells #[.string xk, .int .u64 xm] 66)).ownsRow po 66 2 (.slice va vn vc) (partR a1 a2 (l1.take k)).length ((partR a1 a2 (l1.take k)).flatMap Rdv.cells) ∧ Below po w8 (wr.alloc (.cells #[.string xk, .int .u64 xm] 66))) := ⟨keepc hbx hpoh, owns_later hown hbx, hbr.trans (hbx.mono (Nat.le_of_lt hpol))⟩
              clear hbx hpoh hown hbr HI
              go_wp2_with fail
              refine hcall.mono ?_
              clear hcall
              rintro e w' ⟨rfl, hw⟩
              subst hw
              go_wp2
              go_roundw
              case rel => exact ⟨k + 1, _, _, _, by omega, by go_num, by rw [HEQ.out]; exact HF.out⟩
              case measure => simp [intOf]; omega
          · have hkk : l1.take k = l1 := List.take_of_length_le (by rw [← HZN.out.1]; omega)
            rw [hkk] at HI
            have y4 : wr.cell? ⟨pw, 4, none⟩ = some (.slice qa qn qc) := cell_of_heap (keepc (hbr.mono (by rw [HPO.out]; exact Nat.le_refl _)) HW8.out) rfl
            have HO1 : Hid (wr.heap[po]? = some (.cells #[.int .i64 0, .int .u64 0, .bool false, .slice va vn vc, .slice none 0 0] 28) ∧ wr.ownsRow po 66 2 (.slice va vn vc) (partR a1 a2 l1).length ((partR a1 a2 l1).flatMap Rdv.cells) ∧ Below po w8 wr) := HI.out
            clear hkk HI hpoh hown hbr hpol HPOL
            generalize va = oa at *
            generalize vn = on at *
            generalize vc = oc at *
            go_wp2
            clear y4
            generalize wr = wA at *
            go_loopw [111] (fun i wr => ∃ (k : Nat) (va : Option Addr) (vn vc : Nat), k ≤ qn ∧ i = .int .i64 (k : Nat) ∧ Hid (wr.heap[po]? = some (.cells #[.int .i64 0, .int .u64 0, .bool false, .slice oa on oc, (.slice va vn vc)] 28) ∧ wr.ownsRow po 69 3 (.slice va vn vc) (partW a1 a2 (l2.take k)).length ((partW a1 a2 (l2.take k)).flatMap Wrv.cells) ∧ Below po w8 wr ∧ wr.ownsRow po 66 2 (.slice oa on oc) (partR a1 a2 l1).length ((partR a1 a2 l1).flatMap Rdv.cells))) (fun i _ => qn - (intOf i).toNat)
            case atStart => exact ⟨0, _, _, _, Nat.zero_le _, rfl, HO1.out.1, World.ownsRow_nil _ _ _ _, HO1.out.2.2, HO1.out.2.1⟩
            case round =>
              clear HO1
              obtain ⟨k, va, vn, vc, hk, rfl, HI⟩ := hrel
              have hpoh := HI.out.1
              have hown := HI.out.2.1
              have hbr := HI.out.2.2.1
              have hpol : po < wr.heap.size := (Array.getElem?_eq_some_iff.1 hpoh).1
              have HPOL : Hid (po < wr.heap.size) := hpol
              by_cases hlt : k < qn
              · obtain ⟨b, off, rfl, hc⟩ := (HWD.out.later (hbr.mono (by rw [HPO.out]; exact Nat.le_refl _))).at (by omega)
                obtain ⟨d0, d1, d2⟩ := hc k hlt
                clear hc
                have hkl : k < l2.length := by rw [← HZN.out.2]; exact hlt
                have hx : l2[k]? = some (l2[k]?.getD ⟨⟨#[]⟩, ⟨#[]⟩, false⟩) := by rw [List.getElem?_eq_getElem hkl]; rfl
                generalize l2[k]?.getD ⟨⟨#[]⟩, ⟨#[]⟩, false⟩ = x at d0 d1 d2 hx
                have hxs : x.key.size ≤ maxLen := HFI.out.k _ (List.mem_of_getElem? hx)
                have HNX : Hid (partW a1 a2 (l2.take (k + 1)) = partW a1 a2 (l2.take k) ++ (if ((shard x.key a1 : Nat) : Int) == a2 then [x] else [])) := partW_next hx
                have hll : (partW a1 a2 (l2.take k)).length ≤ 10 := Nat.le_trans (partW_le a1 a2 _) (Nat.le_trans (by rw [List.length_take]; exact Nat.min_le_right _ _) HL2.out)
                obtain ⟨xk, xv, xg⟩ := x
                simp only at d0 d1 d2 hxs
                have hcall := ref_shard_any xk a1 (wr.alloc (.cells #[.string xk, .string xv, .bool xg] 69)) hxs
                obtain ⟨sh, hsh⟩ : ∃ sh : Nat, sh = shard xk a1 := ⟨_, rfl⟩
                simp only [← hsh] at hcall HNX
                clear hsh hx hkl
                by_cases hs : (sh : Int) = a2
                · have hse : ((sh : Int) == a2) = true := by simp [hs]
                  have HEQ : Hid (partW a1 a2 (l2.take (k + 1)) = partW a1 a2 (l2.take k) ++ [(⟨xk, xv, xg⟩ : Wrv)]) := by have := HNX.out; rw [hse] at this; exact this
                  clear HNX hs
                  have hb3 : Below wr.heap.size wr ((wr.alloc (.cells #[.string xk, .string xv, .bool xg] 69)).alloc (.cells #[.string xk, .string xv, .bool xg] 69)) := ((Below.refl _ _).alloc (Nat.le_refl _) _).alloc (by simp) _
                  have hg3 := heap_alloc_new (wr.alloc (.cells #[.string xk, .string xv, .bool xg] 69)) (.cells #[.string xk, .string xv, .bool xg] 69)
                  rw [World.size_alloc] at hg3
                  have hc3 := news_one Wrv.cells ⟨xk, xv, xg⟩ hg3 rfl
                  have t2 := owns_later hown hb3
                  have g3 : ((wr.alloc (.cells #[.string xk, .string xv, .bool xg] 69)).alloc (.cells #[.string xk, .string xv, .bool xg] 69)).heap[po]? = some (.cells #[.int .i64 0, .int .u64 0, .bool false, .slice oa on oc, (.slice va vn vc)] 28) := keepc hb3 hpoh
                  have o3 : wr.cell? ⟨po, 4, none⟩ = some (.slice va vn vc) := cell_of_heap hpoh rfl
                  have HB3 : Hid (Below po w8 ((wr.alloc (.cells #[.string xk, .string xv, .bool xg] 69)).alloc (.cells #[.string xk, .string xv, .bool xg] 69))) := hbr.trans (hb3.mono (Nat.le_of_lt hpol))
                  have hbs : po ≤ ((wr.alloc (.cells #[.string xk, .string xv, .bool xg] 69)).alloc (.cells #[.string xk, .string xv, .bool xg] 69)).heap.size := Nat.le_trans (Nat.le_of_lt hpol) hb3.size
                  have HOK : Hid (∀ v2 w2, w2.ownsRow po 69 3 v2 (partW a1 a2 (l2.take k) ++ [(⟨xk, xv, xg⟩ : Wrv)]).length ((partW a1 a2 (l2.take k) ++ [(⟨xk, xv, xg⟩ : Wrv)]).flatMap Wrv.cells) → ((wr.alloc (.cells #[.string xk, .string xv, .bool xg] 69)).alloc (.cells #[.string xk, .string xv, .bool xg] 69)).grownBy w2 (Value.slice va vn vc).ownBlock → w2.frozen? ⟨po, 4, none⟩ = false ∧ w2.cell? ⟨po, 4, none⟩ = some (.slice va vn vc) ∧ (w2.setCell ⟨po, 4, none⟩ v2).heap[po]? = some (.cells #[.int .i64 0, .int .u64 0, .bool false, .slice oa on oc, v2] 28) ∧ (w2.setCell ⟨po, 4, none⟩ v2).ownsRow po 69 3 v2 (partW a1 a2 (l2.take k) ++ [(⟨xk, xv, xg⟩ : Wrv)]).length ((partW a1 a2 (l2.take k) ++ [(⟨xk, xv, xg⟩ : Wrv)]).flatMap Wrv.cells) ∧ Below po w8 (w2.setCell ⟨po, 4, none⟩ v2) ∧ (w2.setCell ⟨po, 4, none⟩ v2).ownsRow po 66 2 (.slice oa on oc) (partR a1 a2 l1).length ((partR a1 a2 l1).flatMap Rdv.cells)) := by
                    intro v2 w2 q1 q2
                    obtain ⟨r1, r2⟩ := put_beside 4 g3 (by decide) t2 q2 q1
                    refine ⟨frozen_of_row w2 _ _ _ _ r1, cell_of_heap r1 rfl, five_set4 r1, r2, (HB3.out.grown q2 hbs (fun j hj => (World.ownsRow.lt t2 j hj).1)).setCell (Nat.le_refl _) _, ?_⟩
                    exact (owns_same2 ((Fr.grown (T := [69]) q2 (fun j hj => ⟨(World.ownsRow.lt t2 j hj).1, 69, by simp, owns_tag t2 j hj⟩)).owns (owns_later HI.out.2.2.2 hb3) (by decide)) r1 (by decide))
                  clear hg3 g3 hpoh hown hbr HI hb3
                  generalize partW a1 a2 (l2.take k) = LL at *
                  go_wp2_with fail
                  refine hcall.mono ?_
                  clear hcall
                  rintro e w' ⟨rfl, hw⟩
                  subst hw
                  go_wp2_with (at_builtin; refine wp_append_els Wrv.cells 3 40 26 69 _ Tryd.underlying26 Tryd.info_69 rfl (by decide) (fun _ => rfl) (by decide) rfl _ _ rfl po _ LL rfl t2 _ 1 1 [(⟨xk, xv, xg⟩ : Wrv)] rfl rfl hc3 (Wrv.one _) (by decide) (by omega) hbs ?_; intro v2 w2 ho2 hg2 hv2; obtain ⟨qa2, qn2, qc2, rfl⟩ := owns_slice ho2; have hok := HOK.out _ w2 ho2 hg2; have z0 := hok.1; have z1 := hok.2.1; have HF : Hid ((w2.setCell ⟨po, 4, none⟩ (.slice qa2 qn2 qc2)).heap[po]? = some (.cells #[.int .i64 0, .int .u64 0, .bool false, .slice oa on oc, (.slice qa2 qn2 qc2)] 28) ∧ (w2.setCell ⟨po, 4, none⟩ (.slice qa2 qn2 qc2)).ownsRow po 69 3 (.slice qa2 qn2 qc2) (LL ++ [(⟨xk, xv, xg⟩ : Wrv)]).length ((LL ++ [(⟨xk, xv, xg⟩ : Wrv)]).flatMap Wrv.cells) ∧ Below po w8 (w2.setCell ⟨po, 4, none⟩ (.slice qa2 qn2 qc2)) ∧ (w2.setCell ⟨po, 4, none⟩ (.slice qa2 qn2 qc2)).ownsRow po 66 2 (.slice oa on oc) (partR a1 a2 l1).length ((partR a1 a2 l1).flatMap Rdv.cells)) := hok.2.2; clear hok ho2 hg2 hv2)
                  go_roundw
                  case rel => exact ⟨k + 1, _, _, _, by omega, by go_num, by rw [HEQ.out]; exact HF.out⟩
                  case measure => simp [intOf]; omega
                · have hse : ((sh : Int) == a2) = false := by simp [hs]
                  have HEQ : Hid (partW a1 a2 (l2.take (k + 1)) = partW a1 a2 (l2.take k)) := by have := HNX.out; rw [hse] at this; rw [Hid]; simpa using this
                  clear HNX hs
                  have hbx : Below wr.heap.size wr (wr.alloc (.cells #[.string xk, .string xv, .bool xg] 69)) := (Below.refl _ _).alloc (Nat.le_refl _) _
                  have HF : Hid ((wr.alloc (.cells #[.string xk, .string xv, .bool xg] 69)).heap[po]? = some (.cells #[.int .i64 0, .int .u64 0, .bool false, .slice oa on oc, (.slice va vn vc)] 28) ∧ (wr.alloc (.cells #[.string xk, .string xv, .bool xg] 69)).ownsRow po 69 3 (.slice va vn vc) (partW a1 a2 (l2.take k)).length ((partW a1 a2 (l2.take k)).flatMap Wrv.cells) ∧ Below po w8 (wr.alloc (.cells #[.string xk, .string xv, .bool xg] 69)) ∧ (wr.alloc (.cells #[.string xk, .string xv, .bool xg] 69)).ownsRow po 66 2 (.slice oa on oc) (partR a1 a2 l1).length ((partR a1 a2 l1).flatMap Rdv.cells)) := ⟨keepc hbx hpoh, owns_later hown hbx, hbr.trans (hbx.mono (Nat.le_of_lt hpol)), owns_later HI.out.2.2.2 hbx⟩
                  clear hbx hpoh hown hbr HI
                  go_wp2_with fail
                  refine hcall.mono ?_
                  clear hcall
                  rintro e w' ⟨rfl, hw⟩
                  subst hw
                  go_wp2
                  go_roundw
                  case rel => exact ⟨k + 1, _, _, _, by omega, by go_num, by rw [HEQ.out]; exact HF.out⟩
                  case measure => simp [intOf]; omega
              · have hkk : l2.take k = l2 := List.take_of_length_le (by rw [← HZN.out.2]; omega)
                rw [hkk] at HI
                have hb89 : Below w8.heap.size w8 wr := hbr.mono (by rw [HPO.out]; exact Nat.le_refl _)
                have HB10 : Hid (Below w.heap.size w wr) := HB8.out.trans (hb89.mono HB8.out.size)
                have HTX10 : Hid (Tx wr w0.heap.size xa xn xc ya yn yc l1 l2) := HTX8.out.later hb89
                have HTY10 : Hid (Ty wr w2.heap.size za zn zc qa qn qc l1 l2) := HTY8.out.later hb89
                have HX10 : Hid (wr.heap[px]? = some (.cells #[.int .i64 t1, .int .u64 t2, .bool plain, .slice xa xn xc, .slice ya yn yc] 35)) := keepc hb89 HX8.out
                have HW10 : Hid (wr.heap[pw]? = some (.cells #[.int .i64 t1, .int .u64 t2, .bool plain, .slice za zn zc, .slice qa qn qc] 28)) := keepc hb89 HW8.out
                clear HB8 HTX8 HTY8 HX8 HW8
                have HPT : Hid (wr.ownsRow w7.heap.size 79 2 (.slice fa fn fc) (partR a1 a2 l1).length ((partR a1 a2 l1).flatMap Rdv.cells) ∧ wr.ownsRow w7.heap.size 80 3 (.slice ga gn gc) (partW a1 a2 l2).length ((partW a1 a2 l2).flatMap Wrv.cells)) := ⟨owns_later HPT8.out.1 hb89, owns_later HPT8.out.2 hb89⟩
                have HPO1 : Hid (wr.heap[po]? = some (.cells #[.int .i64 0, .int .u64 0, .bool false, .slice oa on oc, .slice va vn vc] 28)) := HI.out.1
                have HOY : Hid (Ty wr po oa on oc va vn vc (partR a1 a2 l1) (partW a1 a2 l2)) := ⟨HI.out.2.2.2, HI.out.2.1, HFI.out.partR a1 a2, Nat.le_trans (partR_le _ _ _) HL1.out, Nat.le_trans (partW_le _ _ _) HL2.out⟩
                clear hkk HI hpoh hown hbr hpol HPOL hb89 HRD HWD HPT8
                go_upto_region 32 with fail
                generalize wr = wz at *
                have HPZ : Hid (zn = p ∧ qn = q) := ⟨HZN.out.1.trans HPL.out.1.symm, HZN.out.2.trans HPL.out.2.symm⟩
                have hez : ((p : Int) == (zn : Int)) = true := by rw [HPZ.out.1]; simp
                have heq : ((q : Int) == (qn : Int)) = true := by rw [HPZ.out.2]; simp
                obtain ⟨x0, x1, x2, x3, x4⟩ := five_cells HX10.out
                obtain ⟨y0, y1, y2, y3, y4⟩ := five_cells HW10.out
                obtain ⟨z0, z1, z2, z3, z4⟩ := five_cells HPO1.out
                have HS : Hid (∀ w', Below wz.heap.size wz w' → w'.cell? ⟨px, 0, none⟩ = some (.int .i64 t1) ∧ w'.cell? ⟨px, 1, none⟩ = some (.int .u64 t2) ∧ w'.cell? ⟨px, 2, none⟩ = some (.bool plain) ∧ w'.cell? ⟨px, 3, none⟩ = some (.slice xa xn xc) ∧ w'.cell? ⟨px, 4, none⟩ = some (.slice ya yn yc) ∧ w'.cell? ⟨pw, 0, none⟩ = some (.int .i64 t1) ∧ w'.cell? ⟨pw, 1, none⟩ = some (.int .u64 t2) ∧ w'.cell? ⟨pw, 2, none⟩ = some (.bool plain) ∧ w'.cell? ⟨pw, 3, none⟩ = some (.slice za zn zc) ∧ w'.cell? ⟨pw, 4, none⟩ = some (.slice qa qn qc) ∧ w'.cell? ⟨po, 0, none⟩ = some (.int .i64 0) ∧ w'.cell? ⟨po, 1, none⟩ = some (.int .u64 0) ∧ w'.cell? ⟨po, 2, none⟩ = some (.bool false) ∧ w'.cell? ⟨po, 3, none⟩ = some (.slice oa on oc) ∧ w'.cell? ⟨po, 4, none⟩ = some (.slice va vn vc)) := fun w' hb => ⟨cell_later hb x0, cell_later hb x1, cell_later hb x2, cell_later hb x3, cell_later hb x4, cell_later hb y0, cell_later hb y1, cell_later hb y2, cell_later hb y3, cell_later hb y4, cell_later hb z0, cell_later hb z1, cell_later hb z2, cell_later hb z3, cell_later hb z4⟩
                clear x0 x1 x2 x3 x4 y0 y1 y2 y3 y4 z0 z1 z2 z3 z4
                have hu0 : Below wz.heap.size wz wz.drew := (Below.refl _ _).drew
                refine wp_region_noPanic ?_
                refine wp_region_held_drew (S := (fun w' => w'.cell? ⟨px, 0, none⟩ = some (.int .i64 t1) ∧ w'.cell? ⟨px, 1, none⟩ = some (.int .u64 t2) ∧ w'.cell? ⟨px, 2, none⟩ = some (.bool plain) ∧ w'.cell? ⟨px, 3, none⟩ = some (.slice xa xn xc) ∧ w'.cell? ⟨px, 4, none⟩ = some (.slice ya yn yc) ∧ w'.cell? ⟨pw, 0, none⟩ = some (.int .i64 t1) ∧ w'.cell? ⟨pw, 1, none⟩ = some (.int .u64 t2) ∧ w'.cell? ⟨pw, 2, none⟩ = some (.bool plain) ∧ w'.cell? ⟨pw, 3, none⟩ = some (.slice za zn zc) ∧ w'.cell? ⟨pw, 4, none⟩ = some (.slice qa qn qc) ∧ w'.cell? ⟨po, 0, none⟩ = some (.int .i64 0) ∧ w'.cell? ⟨po, 1, none⟩ = some (.int .u64 0) ∧ w'.cell? ⟨po, 2, none⟩ = some (.bool false) ∧ w'.cell? ⟨po, 3, none⟩ = some (.slice oa on oc) ∧ w'.cell? ⟨po, 4, none⟩ = some (.slice va vn vc))) (by kernel_rfl) ?_ (fun hHeld => ?_)
                · exact HS.out _ hu0
                refine held_take (i := 0) (d := 128) (v := ?_) rfl rfl (by kernel_rfl) (by kernel_rfl) (by kernel_rfl) (fun _ _ _ h => h) (Or.inl ⟨by rfl, ?_⟩) hHeld ?_
                rotate_left
                · (intro w hSw; (try dsimp only at hSw); go_simp; all_goals (with_reducible rfl))
                try simp only [Act.put, List.setIfInBounds_toArray, List.set_cons_zero, List.set_cons_succ]
                refine held_take (i := 1) (d := 129) (v := ?_) rfl rfl (by kernel_rfl) (by kernel_rfl) (by kernel_rfl) (fun _ _ _ h => h) (Or.inl ⟨by rfl, ?_⟩) hHeld ?_
                rotate_left
                · (intro w hSw; (try dsimp only at hSw); go_simp; all_goals (with_reducible rfl))
                try simp only [Act.put, List.setIfInBounds_toArray, List.set_cons_zero, List.set_cons_succ]
                refine held_take (i := 2) (d := 130) (v := ?_) rfl rfl (by kernel_rfl) (by kernel_rfl) (by kernel_rfl) (fun _ _ _ h => h) (Or.inl ⟨by rfl, ?_⟩) hHeld ?_
                rotate_left
                · (intro w hSw; (try dsimp only at hSw); go_simp; all_goals (with_reducible rfl))
                try simp only [Act.put, List.setIfInBounds_toArray, List.set_cons_zero, List.set_cons_succ]
                refine held_take (i := 3) (d := 131) (v := ?_) rfl rfl (by kernel_rfl) (by kernel_rfl) (by kernel_rfl) (fun _ _ _ h => h) (Or.inl ⟨by rfl, ?_⟩) hHeld ?_
                rotate_left
                · (intro w hSw; (try dsimp only at hSw); go_simp; all_goals (with_reducible rfl))
                try simp only [Act.put, List.setIfInBounds_toArray, List.set_cons_zero, List.set_cons_succ]
                refine held_take (i := 4) (d := 132) (v := ?_) rfl rfl (by kernel_rfl) (by kernel_rfl) (by kernel_rfl) (fun _ _ _ h => h) (Or.inl ⟨by rfl, ?_⟩) hHeld ?_
                rotate_left
                · (intro w hSw; (try dsimp only at hSw); go_simp; all_goals (with_reducible rfl))
                try simp only [Act.put, List.setIfInBounds_toArray, List.set_cons_zero, List.set_cons_succ]
                refine held_take (i := 5) (d := 133) (v := ?_) rfl rfl (by kernel_rfl) (by kernel_rfl) (by kernel_rfl) (fun _ _ _ h => h) (Or.inl ⟨by rfl, ?_⟩) hHeld ?_
                rotate_left
                · (intro w hSw; (try dsimp only at hSw); go_simp; all_goals (with_reducible rfl))
                try simp only [Act.put, List.setIfInBounds_toArray, List.set_cons_zero, List.set_cons_succ]
                refine held_take (i := 6) (d := 134) (v := ?_) rfl rfl (by kernel_rfl) (by kernel_rfl) (by kernel_rfl) (fun _ _ _ h => h) (Or.inl ⟨by rfl, ?_⟩) hHeld ?_
                rotate_left
                · (intro w hSw; (try dsimp only at hSw); go_simp; all_goals (with_reducible rfl))
                try simp only [Act.put, List.setIfInBounds_toArray, List.set_cons_zero, List.set_cons_succ]
                refine held_take (i := 7) (d := 135) (v := ?_) rfl rfl (by kernel_rfl) (by kernel_rfl) (by kernel_rfl) (fun _ _ _ h => h) (Or.inl ⟨by rfl, ?_⟩) hHeld ?_
                rotate_left
                · (intro w hSw; (try dsimp only at hSw); go_simp; all_goals (with_reducible rfl))
                try simp only [Act.put, List.setIfInBounds_toArray, List.set_cons_zero, List.set_cons_succ]
                refine held_take (i := 8) (d := 136) (v := ?_) rfl rfl (by kernel_rfl) (by kernel_rfl) (by kernel_rfl) (fun _ _ _ h => h) (Or.inl ⟨by rfl, ?_⟩) hHeld ?_
                rotate_left
                · (intro w hSw; (try dsimp only at hSw); go_simp; all_goals (with_reducible rfl))
                try simp only [Act.put, List.setIfInBounds_toArray, List.set_cons_zero, List.set_cons_succ]
                refine held_take (i := 9) (d := 137) (v := ?_) rfl rfl (by kernel_rfl) (by kernel_rfl) (by kernel_rfl) (fun _ _ _ h => h) (Or.inl ⟨by rfl, ?_⟩) hHeld ?_
                rotate_left
                · (intro w hSw; (try dsimp only at hSw); go_simp; all_goals (with_reducible rfl))
                try simp only [Act.put, List.setIfInBounds_toArray, List.set_cons_zero, List.set_cons_succ]
                refine held_take (i := 10) (d := 138) (v := ?_) rfl rfl (by kernel_rfl) (by kernel_rfl) (by kernel_rfl) (fun _ _ _ h => h) (Or.inl ⟨by rfl, ?_⟩) hHeld ?_
                rotate_left
                · (intro w hSw; (try dsimp only at hSw); go_simp; all_goals (with_reducible rfl))
                try simp only [Act.put, List.setIfInBounds_toArray, List.set_cons_zero, List.set_cons_succ]
                refine held_take (i := 11) (d := 139) (v := ?_) rfl rfl (by kernel_rfl) (by kernel_rfl) (by kernel_rfl) (fun _ _ _ h => h) (Or.inl ⟨by rfl, ?_⟩) hHeld ?_
                rotate_left
                · (intro w hSw; (try dsimp only at hSw); go_simp; all_goals (with_reducible rfl))
                try simp only [Act.put, List.setIfInBounds_toArray, List.set_cons_zero, List.set_cons_succ]
                refine held_take (i := 12) (d := 140) (v := ?_) rfl rfl (by kernel_rfl) (by kernel_rfl) (by kernel_rfl) (fun _ _ _ h => h) (Or.inl ⟨by rfl, ?_⟩) hHeld ?_
                rotate_left
                · (intro w hSw; (try dsimp only at hSw); go_simp; all_goals (with_reducible rfl))
                try simp only [Act.put, List.setIfInBounds_toArray, List.set_cons_zero, List.set_cons_succ]
                refine held_take (i := 13) (d := 141) (v := ?_) rfl rfl (by kernel_rfl) (by kernel_rfl) (by kernel_rfl) (fun _ _ _ h => h) (Or.inl ⟨by rfl, ?_⟩) hHeld ?_
                rotate_left
                · (intro w hSw; (try dsimp only at hSw); go_simp; all_goals (with_reducible rfl))
                try simp only [Act.put, List.setIfInBounds_toArray, List.set_cons_zero, List.set_cons_succ]
                refine held_take (i := 14) (d := 142) (v := ?_) rfl rfl (by kernel_rfl) (by kernel_rfl) (by kernel_rfl) (fun _ _ _ h => h) (Or.inl ⟨by rfl, ?_⟩) hHeld ?_
                rotate_left
                · (intro w hSw; (try dsimp only at hSw); go_simp; all_goals (with_reducible rfl))
                try simp only [Act.put, List.setIfInBounds_toArray, List.set_cons_zero, List.set_cons_succ]
                refine held_take (i := 15) (d := 143) (v := ?_) rfl rfl (by kernel_rfl) (by kernel_rfl) (by kernel_rfl) (fun _ _ _ h => h) (Or.inl ⟨by rfl, ?_⟩) hHeld ?_
                rotate_left
                · (intro w hSw; (try dsimp only at hSw); go_simp; all_goals (with_reducible rfl))
                try simp only [Act.put, List.setIfInBounds_toArray, List.set_cons_zero, List.set_cons_succ]
                refine held_take (i := 17) (d := 145) (v := ?_) rfl rfl (by kernel_rfl) (by kernel_rfl) (by kernel_rfl) (fun _ _ _ h => h) (Or.inl ⟨by rfl, ?_⟩) hHeld ?_
                rotate_left
                · (intro w hSw; (try dsimp only at hSw); go_simp; all_goals (with_reducible rfl))
                try simp only [Act.put, List.setIfInBounds_toArray, List.set_cons_zero, List.set_cons_succ]
                refine wpAnyH_ready (rs := [16]) (by kernel_rfl) (by simp) ?_
                refine AllReadyH.cons rfl (fun K hK => ?_) AllReadyH.nil
                go_simp
                have hq := plain_any (0, 0) false w7.heap.size (.slice fa fn fc) (.slice ga gn gc) (partR a1 a2 l1) (partW a1 a2 l2) wz.drew (owns_later HPT.out.1 hu0) (owns_later HPT.out.2 hu0) HOY.out.h1 HOY.out.h2
                refine hq.mono ?_
                clear hq
                rintro e u1 ⟨⟨v5, v6, rfl, ho5, ho6⟩, hx⟩
                obtain ⟨ia, im, ic, rfl⟩ := owns_slice ho5
                obtain ⟨ja, jm, jc, rfl⟩ := owns_slice ho6
                have hu1 : Below wz.heap.size wz u1 := hu0.trans hx
                have HIY : Hid (Ty u1 wz.drew.heap.size ia im ic ja jm jc (partR a1 a2 l1) (partW a1 a2 l2)) := ⟨ho5, ho6, HOY.out.f, HOY.out.h1, HOY.out.h2⟩
                clear hx ho5 ho6
                go_wp2_with fail
                refine hK.out _ _ ?_ (fun hHeld => ?_)
                · exact HS.out _ hu1
                clear hK K
                try simp only [Act.put, List.setIfInBounds_toArray, List.set_cons_zero, List.set_cons_succ]
                refine wpAnyH_ready (rs := [18]) (by kernel_rfl) (by simp) ?_
                refine AllReadyH.cons rfl (fun K hK => ?_) AllReadyH.nil
                go_simp
                have hq := rsame_let (0, 0) false wz.drew.heap.size po ia oa im on ic oc ja va jm vn jc vc (partR a1 a2 l1) (partW a1 a2 l2) u1 HIY.out (HOY.out.later hu1)
                refine hq.mono ?_
                clear hq
                rintro e u2 ⟨rfl, hx⟩
                have hu2 : Below wz.heap.size wz u2 := hu1.trans (hx.mono hu1.size)
                clear hx
                go_wp2_with fail
                refine hK.out _ _ ?_ (fun hHeld => ?_)
                · exact HS.out _ hu2
                clear hK K
                try simp only [Act.put, List.setIfInBounds_toArray, List.set_cons_zero, List.set_cons_succ]
                refine held_take (i := 19) (d := 147) (v := ?_) rfl rfl (by kernel_rfl) (by kernel_rfl) (by kernel_rfl) (fun _ _ _ h => h) (Or.inl ⟨by rfl, ?_⟩) hHeld ?_
                rotate_left
                · (intro w hSw; (try dsimp only at hSw); go_simp; all_goals (with_reducible rfl))
                try simp only [Act.put, List.setIfInBounds_toArray, List.set_cons_zero, List.set_cons_succ]
                refine held_take (i := 20) (d := 148) (v := ?_) rfl rfl (by kernel_rfl) (by kernel_rfl) (by kernel_rfl) (fun _ _ _ h => h) (Or.inl ⟨by rfl, ?_⟩) hHeld ?_
                rotate_left
                · (intro w hSw; (try dsimp only at hSw); go_simp; all_goals (with_reducible rfl))
                try simp only [Act.put, List.setIfInBounds_toArray, List.set_cons_zero, List.set_cons_succ]
                refine held_take (i := 21) (d := 149) (v := ?_) rfl rfl (by kernel_rfl) (by kernel_rfl) (by kernel_rfl) (fun _ _ _ h => h) (Or.inl ⟨by rfl, ?_⟩) hHeld ?_
                rotate_left
                · (intro w hSw; (try dsimp only at hSw); go_simp; all_goals (with_reducible rfl))
                try simp only [Act.put, List.setIfInBounds_toArray, List.set_cons_zero, List.set_cons_succ]
                refine held_take (i := 24) (d := 152) (v := ?_) rfl rfl (by kernel_rfl) (by kernel_rfl) (by kernel_rfl) (fun _ _ _ h => h) (Or.inl ⟨by rfl, ?_⟩) hHeld ?_
                rotate_left
                · (intro w hSw; (try dsimp only at hSw); go_simp; all_goals (with_reducible rfl))
                try simp only [Act.put, List.setIfInBounds_toArray, List.set_cons_zero, List.set_cons_succ]
                refine held_take (i := 25) (d := 153) (v := ?_) rfl rfl (by kernel_rfl) (by kernel_rfl) (by kernel_rfl) (fun _ _ _ h => h) (Or.inl ⟨by rfl, ?_⟩) hHeld ?_
                rotate_left
                · (intro w hSw; (try dsimp only at hSw); go_simp; all_goals (with_reducible rfl))
                try simp only [Act.put, List.setIfInBounds_toArray, List.set_cons_zero, List.set_cons_succ]
                refine held_take (i := 26) (d := 154) (v := ?_) rfl rfl (by kernel_rfl) (by kernel_rfl) (by kernel_rfl) (fun _ _ _ h => h) (Or.inl ⟨by rfl, ?_⟩) hHeld ?_
                rotate_left
                · (intro w hSw; (try dsimp only at hSw); go_simp; all_goals (with_reducible rfl))
                try simp only [Act.put, List.setIfInBounds_toArray, List.set_cons_zero, List.set_cons_succ]
                refine wpAnyH_ready (rs := [22]) (by kernel_rfl) (by simp) ?_
                refine AllReadyH.cons rfl (fun K hK => ?_) AllReadyH.nil
                go_simp
                have hq := ekeys_any (t1, t2) plain w0.heap.size xa xn xc ya yn yc l1 l2 u2 (HTX10.out.later hu2)
                refine hq.mono ?_
                clear hq
                rintro e u3 ⟨⟨v7, rfl, ho7⟩, hx⟩
                have hu3 : Below wz.heap.size wz u3 := hu2.trans (hx.mono hu2.size)
                obtain ⟨ka, kn, kc, rfl⟩ := owns_slice ho7
                have ekn : kn = p + q := by have h1 := owns_len ho7; rw [List.length_map] at h1; rw [HPL.out.1, HPL.out.2, h1]; simp [tkeys]
                have hwr : IntKind.i64.wrap ((p : Int) + (q : Int)) = (p : Int) + (q : Int) := by rw [IntKind.wrap]; simp [IntKind.bits]; omega
                have hek : (kn : Int) = IntKind.i64.wrap ((p : Int) + (q : Int)) := by rw [hwr]; omega
                clear hwr
                clear ekn hx ho7
                go_wp2_with fail
                refine hK.out _ _ ?_ (fun hHeld => ?_)
                · exact HS.out _ hu3
                clear hK K
                try simp only [Act.put, List.setIfInBounds_toArray, List.set_cons_zero, List.set_cons_succ]
                refine held_take (i := 23) (d := 151) (v := ?_) rfl rfl (by kernel_rfl) (by kernel_rfl) (by kernel_rfl) (fun _ _ _ h => h) (Or.inl ⟨by rfl, ?_⟩) hHeld ?_
                rotate_left
                · (intro w hSw; (try dsimp only at hSw); go_simp; all_goals (with_reducible rfl))
                try simp only [Act.put, List.setIfInBounds_toArray, List.set_cons_zero, List.set_cons_succ]
                refine held_take (i := 27) (d := 155) (v := ?_) rfl rfl (by kernel_rfl) (by kernel_rfl) (by kernel_rfl) (fun _ _ _ h => h) (Or.inl ⟨by rfl, ?_⟩) hHeld ?_
                rotate_left
                · (intro w hSw; (try dsimp only at hSw); go_simp; all_goals (with_reducible rfl))
                try simp only [Act.put, List.setIfInBounds_toArray, List.set_cons_zero, List.set_cons_succ]
                refine held_take (i := 28) (d := 156) (v := ?_) rfl rfl (by kernel_rfl) (by kernel_rfl) (by kernel_rfl) (fun _ _ _ h => h) (Or.inl ⟨by rfl, ?_⟩) hHeld ?_
                rotate_left
                · (intro w hSw; (try dsimp only at hSw); go_simp; all_goals (with_reducible rfl))
                try simp only [Act.put, List.setIfInBounds_toArray, List.set_cons_zero, List.set_cons_succ]
                refine held_take (i := 29) (d := 157) (v := ?_) rfl rfl (by kernel_rfl) (by kernel_rfl) (by kernel_rfl) (fun _ _ _ h => h) (Or.inl ⟨by rfl, ?_⟩) hHeld ?_
                rotate_left
                · (intro w hSw; (try dsimp only at hSw); go_simp; all_goals (with_reducible rfl))
                try simp only [Act.put, List.setIfInBounds_toArray, List.set_cons_zero, List.set_cons_succ]
                refine wpAnyH_ready (rs := [30]) (by kernel_rfl) (by simp) ?_
                refine AllReadyH.cons rfl (fun K hK => ?_) AllReadyH.nil
                go_simp
                have hq := awake12_any u3
                refine hq.mono ?_
                clear hq
                rintro e u4 ⟨rfl, hx⟩
                have hu4 : Below wz.heap.size wz u4 := hu3.trans (hx.mono hu3.size)
                clear hx
                go_wp2_with fail
                refine hK.out _ _ ?_ (fun hHeld => ?_)
                · exact HS.out _ hu4
                clear hK K
                try simp only [Act.put, List.setIfInBounds_toArray, List.set_cons_zero, List.set_cons_succ]
                refine held_take (i := 31) (d := 159) (v := ?_) rfl rfl (by kernel_rfl) (by kernel_rfl) (by kernel_rfl) (fun _ _ _ h => h) (Or.inl ⟨by rfl, ?_⟩) hHeld ?_
                rotate_left
                · (intro w hSw; (try dsimp only at hSw); go_simp; all_goals (with_reducible rfl))
                try simp only [Act.put, List.setIfInBounds_toArray, List.set_cons_zero, List.set_cons_succ]
                refine held_take (i := 32) (d := 6) (v := ?_) rfl rfl (by kernel_rfl) (by kernel_rfl) (by kernel_rfl) (fun _ _ _ h => h) (Or.inl ⟨by rfl, ?_⟩) hHeld ?_
                rotate_left
                · (intro w hSw; (try dsimp only at hSw); go_simp; all_goals (with_reducible rfl))
                try simp only [Act.put, List.setIfInBounds_toArray, List.set_cons_zero, List.set_cons_succ]
                refine wpAnyH_done (by kernel_rfl) ?_ _
                refine NoPanic.normal ?_
                clear hHeld HS
                have HF : Hid (Below w.heap.size w u4) := HB10.out.trans (hu4.mono HB10.out.size)
                go_wp2
                go_ret
                exact ⟨rfl, HF.out⟩

/-! From the call to the statement. -/
set_option maxRecDepth 100000 in
theorem lifted (os : Os) (started : os.Started) (H : Type) (enc : TypeId × Value → H) :
    ReturnsInHanded {} Tryd.checked os 5 .any (fun w args => (Rows.entryShardsSpec.pre enc Tryd.prog Tryd.f5 [] false w args ∧ laidMetH Tryd.prog listed w) ∧ sizedMet enc Tryd.prog Tryd.f5 (OpenSpec.ofChange Rows.entryShardsSpec) false w args)
      (Rows.entryShardsSpec.post enc Tryd.prog Tryd.f5 false true false false) := by
  refine returnsInHanded_of_change_and (C := Tryd.checked) (X := fun w _ => laidMetH Tryd.prog listed w) (fun _ _ _ hh h => h.of_heap hh) Fa.own started (by kernel_rfl) Tryd.func5
    (ChangeSpec.witness_shaped (enc := enc) (C := Tryd.checked) (os := os) (X := fun w _ => laidMetH Tryd.prog listed w) false (World.doorLaid Tryd.prog 400 os) #[.agg #[.int .i64 0, .int .u64 0, .bool false, .slice none 0 0, .slice none 0 0], .int .i64 0, .int .i64 0] 8 rfl (World.shaped_of_RefB (by kernel_rfl) (by kernel_rfl)) (by kernel_rfl) (by kernel_rfl) (by kernel_rfl) (door_met os _)) ?_
  intro W base args ds gs before hval0 hW _ _ hL _
  have hval : ∀ (j : Nat) t v, Tryd.f5.params[j]? = some t → args[j]? = some v → Value.okWide Tryd.prog W .any base t v := hval0
  have hW' := hW
  obtain ⟨p, q, hA0, hV, rfl, hfz, hnd⟩ := hW
  have hA : DataW.TrodAll enc Tryd.prog W 0 (fun _ => true) true Tryd.f5.params.toList args.toList ds p := hA0
  rw [Tryd.params5] at hA hval
  obtain ⟨v0, vs0, d0, ds0, p0, q0, hargs, rfl, rfl, h0, r0⟩ := trodAll_cons hA
  obtain ⟨v1, vs1, d1, ds1, p1, q1, rfl, rfl, rfl, h1, r1⟩ := trodAll_cons r0
  obtain ⟨v2, vs2, d2, ds2, p2, q2, rfl, rfl, rfl, h2, r2⟩ := trodAll_cons r1
  obtain ⟨rfl, rfl, rfl⟩ := trodAll_nil r2
  obtain rfl : args = #[v0, v1, v2] := by cases args; simp_all
  obtain ⟨rfl, rfl⟩ := trodVars_none hV
  have k0 := h0
  have lt0 : ∀ x ∈ p0, x.block < W.heap.size := by obtain ⟨m, hm⟩ := k0; exact DataW.trod_lt m _ _ _ hm
  obtain ⟨i0, rfl, w0⟩ := open_txi (hval 0 28 v0 rfl rfl) h0
  obtain ⟨a1, rfl, rfl, rfl, w1⟩ := open_int Tryd.underlying3 (hval 1 3 v1 rfl rfl) h1
  obtain ⟨a2, rfl, rfl, rfl, w2⟩ := open_int Tryd.underlying3 (hval 2 3 v2 rfl rfl) h2
  clear hA0 hval0
  refine (walk i0 a1 a2 W (G.of_laid hL) w0 w1 w2).mono fun e W' ⟨he, bel⟩ => ?_
  subst he
  exact ⟨_, rfl, _, _, _, [], _, [], hW', trodAll_mk1 (shut_bool Tryd.underlying4 _), (trodAll_cons_mk (Below.trod laidOut (by kernel_rfl) (of_decide_eq_true (by kernel_rfl)) k0 bel lt0) (trodAll_cons_mk (shut_int Tryd.underlying3 w1) (trodAll_cons_mk (shut_int Tryd.underlying3 w2) trodAll_mk0))), rfl, bel.frame _, fun h => by cases h⟩

theorem over : Rows.entryShardsRow.holds Tryd.pinned (OpenSpec.ofChange Rows.entryShardsSpec) :=
  OpenClaim.holds_of_wide 5 Tryd.f5 rfl rfl rfl rfl rfl rfl rfl ⟨rfl, rfl, rfl, rfl, rfl⟩ rfl rfl rfl rfl rfl (by kernel_rfl) Tryd.func5 (by kernel_rfl)
    (of_decide_eq_true (by kernel_rfl)) (by unfold Func.isWrapper; rw [if_neg (of_decide_eq_false (by kernel_rfl))]; exact ⟨rfl, rfl⟩)
    (fun os started H enc _ => lifted os started H enc)
end Go.Proofs.YteokhedljfakkaaDoor.entryShards
namespace Go.Proofs.YteokhedljfakkaaDoor
open Go
set_option maxRecDepth 100000 in
theorem entryShards_holds : Rows.EntryShardsCardSaid :=
  Claim7.holds_tied_plain_at .later [] [.handle] true (true, "ea097fe2469b743f1a729c095ad40ff6a90a1f5214a00ae1ffcd7e2b5f076a58") true
    entryShards.over (fun _ h => by cases h) (by kernel_rfl) (fun _ h => by cases h) entryShards_row_tie rfl ⟨rfl, rfl⟩ (by kernel_rfl) rfl
    (fun f fn hf hfn => by
      obtain rfl : f = 5 := Option.some.inj ((show Tryd.prog.funcNamed Rows.entryShardsRow.func = some 5 by kernel_rfl).symm.trans hf) |>.symm
      obtain rfl : fn = Tryd.f5 := (Option.some.inj (Tryd.func5.symm.trans hfn)).symm
      exact ⟨by kernel_rfl, fun j t ht => by
        rw [Tryd.params5] at ht
        match j, ht with
        | 0, ht =>
          obtain rfl : t = 28 := by simpa using ht.symm
          exact (show Tryd.prog.wantsStandIn 28 = false by kernel_rfl)
        | 1, ht =>
          obtain rfl : t = 3 := by simpa using ht.symm
          exact (show Tryd.prog.wantsStandIn 3 = false by kernel_rfl)
        | 2, ht =>
          obtain rfl : t = 3 := by simpa using ht.symm
          exact (show Tryd.prog.wantsStandIn 3 = false by kernel_rfl)
        | j + 3, ht => simp at ht⟩)
    (by kernel_rfl)
#print axioms entryShards_holds
end Go.Proofs.YteokhedljfakkaaDoor
