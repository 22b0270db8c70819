/-
  EntryTxn (P12.2, P12.3): for every transaction and every row of bytes of Go's domain the law of chapter 12 answers true: the bytes of a right transaction (its lists cut to ten) are as the document says, and read back as it was, whatever (up to sixty bytes) stands behind. Conditions: those of the given statement alone; it is a tied card: package errors' own variable errorType lies as its text lays it.
-/
import Derived.Test.YteokhedljfakkaaDoorRows
import Derived.Test.YteokhedljfakkaaDoorCards
import Derived.Test.YteokhedljfakkaaDoorTie
import Derived.Test.YteokhedljfakkaaDoorDoor
import Derived.Test.YteokhedljfakkaaDoorEnNb
import Derived.WalkKit
import Derived.ProofKit
import Derived.OpenShut
import Derived.ShutString
import Derived.ChangeOld
import Derived.Below
import Derived.SevenTiedAt
namespace Go.Proofs.YteokhedljfakkaaDoor.entryTxn
open Go.ChangeShapes Go.WideShapes Go.ChangeAt Go.RowKit
open Go.ChangeMaps (open_string shut_string)
set_option linter.unusedSimpArgs false
set_option linter.unusedVariables false

theorem laidOut : laidOutB Tryd.prog = true := by kernel_rfl

/-! The law returns true, and writes nothing that was there. -/
set_option maxRecDepth 100000 in
set_option maxHeartbeats 16000000 in
theorem walk (i0 : Txi) (a1 : Option Addr) (len1 cap1 : Nat) (z1 : List Int) (w : World) (hg : G w) (w0 : i0.okN w) (w1 : IsRow .u8 w a1 len1 cap1 z1) :
    Calls Tryd.prog 4 #[txiv i0, .slice a1 len1 cap1] w fun e w' => e = .returned (.bool true) ∧ Below w.heap.size w w' := by
  have f1 := w1.facts
  have hzz : a1 = none → cap1 = 0 := f1.2.2
  have hcm1 := f1.2.1
  unfold maxLen at hcm1
  by_cases hl : len1 ≤ 60
  · have HRB : Hid (Row w a1 len1 (firsts z1 len1)) := w1.row len1 (Nat.le_refl _)
    generalize firsts z1 len1 = bs at HRB
    clear w1 f1
    obtain ⟨⟨t1, t2⟩, plain, ra, rn, rc, wa, wn, wc, R, W⟩ := i0
    have hnn := ten_nums w0.kn
    have w0 := w0.ok
    have hR : Rds w ra rn R := w0.r
    have hW : Wrs w wa wn W := w0.w
    have hf : Fine (tenR rn R) (tenW wn W) := ⟨ten_keys w0.kr, ten_keysW w0.kw, ten_valsW w0.kw⟩
    have hmin : IntKind.u64.min = 0 := by decide
    have hmax : IntKind.u64.max = 18446744073709551615 := by decide
    have ht2 : 0 ≤ t2 ∧ t2 < 18446744073709551616 := by have := w0.i2; simp [Lit.wf] at this; omega
    clear hmax
    clear hmin
    have HNN : Hid (∀ x ∈ tenR rn R, 0 ≤ x.num ∧ x.num < 18446744073709551616) := hnn
    clear hnn
    have hl1 := tenR_length rn R
    have hl2 := tenW_length wn W
    clear w0
    have hb0 : Below w.heap.size w (w.alloc (.cells #[.int .i64 t1, .int .u64 t2, .bool plain, .slice ra rn rc, .slice wa wn wc] 28)) := (Below.refl _ _).alloc (Nat.le_refl _) _
    have hcall := our_any (t1, t2) plain ra rn rc wa wn wc R W (w.alloc (.cells #[.int .i64 t1, .int .u64 t2, .bool plain, .slice ra rn rc, .slice wa wn wc] 28)) (hR.later hb0) (hW.later hb0)
    generalize tenR rn R = l1 at *
    generalize tenW wn W = l2 at *
    clear hR hW
    have HL1 : Hid (l1.length ≤ 10) := hl1
    have HL2 : Hid (l2.length ≤ 10) := hl2
    have HFI : Hid (Fine l1 l2) := hf
    clear hl1 hl2 hf
    go_enter Tryd.func4, Tryd.ntmps4
    go_wp2_with fail
    generalize w.alloc (.cells #[.int .i64 t1, .int .u64 t2, .bool plain, .slice ra rn rc, .slice wa wn wc] 28) = w0 at *
    refine hcall.mono ?_
    clear hcall
    rintro e w1 ⟨⟨v1, v2, rfl, ho1, ho2⟩, hb1⟩
    have HB1 : Hid (Below w.heap.size w w1) := hb0.trans (hb1.mono hb0.size)
    obtain ⟨xa, xn, xc, rfl⟩ := owns_slice ho1
    obtain ⟨ya, yn, yc, rfl⟩ := owns_slice ho2
    have htx : Tx w1 w0.heap.size xa xn xc ya yn yc l1 l2 := ⟨ho1, ho2, HFI.out, Nat.le_trans HL1.out (by omega), Nat.le_trans HL2.out (by omega), owns_len ho1, owns_len ho2⟩
    clear ho1 ho2 hb0 hb1
    have hb2 : Below w1.heap.size w1 (w1.alloc (.cells #[.int .i64 t1, .int .u64 t2, .bool plain, .slice xa xn xc, .slice ya yn yc] 35)) := (Below.refl _ _).alloc (Nat.le_refl _) _
    have hn2 := heap_alloc_new w1 (.cells #[.int .i64 t1, .int .u64 t2, .bool plain, .slice xa xn xc, .slice ya yn yc] 35)
    go_upto_region 2 with fail
    generalize w1.alloc (.cells #[.int .i64 t1, .int .u64 t2, .bool plain, .slice xa xn xc, .slice ya yn yc] 35) = w2 at *
    have HB2 : Hid (Below w.heap.size w w2) := HB1.out.trans (hb2.mono HB1.out.size)
    have HTX2 : Hid (Tx w2 w0.heap.size xa xn xc ya yn yc l1 l2) := htx.later hb2
    have HN2 : Hid (w2.heap[w1.heap.size]? = some (.cells #[.int .i64 t1, .int .u64 t2, .bool plain, .slice xa xn xc, .slice ya yn yc] 35)) := hn2
    clear hb2 hn2 htx HB1
    generalize w1.heap.size = px at *
    obtain ⟨x0, x1, x2, x3, x4⟩ := five_cells HN2.out
    have hcall := plain_any (t1, t2) plain w0.heap.size (.slice xa xn xc) (.slice ya yn yc) l1 l2 w2 HTX2.out.r HTX2.out.w HL1.out HL2.out
    go_wp2_with fail
    refine hcall.mono ?_
    clear hcall x0 x1 x2 x3 x4
    rintro e w3 ⟨⟨v3, v4, rfl, ho3, ho4⟩, hb3⟩
    obtain ⟨za, zn, zc, rfl⟩ := owns_slice ho3
    obtain ⟨qa, qn, qc, rfl⟩ := owns_slice ho4
    have htr : Ty w3 w2.heap.size za zn zc qa qn qc l1 l2 := ⟨ho3, ho4, HFI.out, HL1.out, HL2.out⟩
    have HB3 : Hid (Below w.heap.size w w3) := HB2.out.trans (hb3.mono HB2.out.size)
    have HTX3 : Hid (Tx w3 w0.heap.size xa xn xc ya yn yc l1 l2) := HTX2.out.later hb3
    have HN3 : Hid (w3.heap[px]? = some (.cells #[.int .i64 t1, .int .u64 t2, .bool plain, .slice xa xn xc, .slice ya yn yc] 35)) := keepc hb3 HN2.out
    clear ho3 ho4 hb3 HB2 HTX2 HN2
    have hb4 : Below w3.heap.size w3 (w3.alloc (.cells #[.int .i64 t1, .int .u64 t2, .bool plain, .slice za zn zc, .slice qa qn qc] 28)) := (Below.refl _ _).alloc (Nat.le_refl _) _
    have hn4 := heap_alloc_new w3 (.cells #[.int .i64 t1, .int .u64 t2, .bool plain, .slice za zn zc, .slice qa qn qc] 28)
    go_upto_region 3 with fail
    generalize w3.alloc (.cells #[.int .i64 t1, .int .u64 t2, .bool plain, .slice za zn zc, .slice qa qn qc] 28) = w4 at *
    have HB4 : Hid (Below w.heap.size w w4) := HB3.out.trans (hb4.mono HB3.out.size)
    have HTX4 : Hid (Tx w4 w0.heap.size xa xn xc ya yn yc l1 l2) := HTX3.out.later hb4
    have HTY4 : Hid (Ty w4 w2.heap.size za zn zc qa qn qc l1 l2) := htr.later hb4
    have HX4 : Hid (w4.heap[px]? = some (.cells #[.int .i64 t1, .int .u64 t2, .bool plain, .slice xa xn xc, .slice ya yn yc] 35)) := keepc hb4 HN3.out
    have HW4 : Hid (w4.heap[w3.heap.size]? = some (.cells #[.int .i64 t1, .int .u64 t2, .bool plain, .slice za zn zc, .slice qa qn qc] 28)) := hn4
    clear hb4 htr HB3 HTX3 HN3 hn4
    generalize w3.heap.size = pw at *
    obtain ⟨y0, y1, y2, y3, y4⟩ := five_cells HW4.out
    have hcall := ref_rightTxn_any (t1, t2) plain w2.heap.size (.slice za zn zc) (.slice qa qn qc) l1 l2 w4 HTY4.out.r HTY4.out.w ht2.1 HL1.out HL2.out HFI.out.r (fun x hx => ⟨HFI.out.k x hx, HFI.out.v x hx⟩)
    obtain ⟨rt, hrt⟩ : ∃ rt, rt = rtxn (t1, t2) plain l1 l2 := ⟨_, rfl⟩
    rw [← hrt] at hcall
    have HRT : Hid (rt = rtxn (t1, t2) plain l1 l2) := hrt
    clear hrt
    go_wp2_with fail
    refine hcall.mono ?_
    clear hcall y0 y1 y2 y3 y4
    rintro e w5 ⟨rfl, hb5⟩
    have HB5 : Hid (Below w.heap.size w w5) := HB4.out.trans (hb5.mono HB4.out.size)
    have HTX5 : Hid (Tx w5 w0.heap.size xa xn xc ya yn yc l1 l2) := HTX4.out.later hb5
    have HTY5 : Hid (Ty w5 w2.heap.size za zn zc qa qn qc l1 l2) := HTY4.out.later hb5
    have HX5 : Hid (w5.heap[px]? = some (.cells #[.int .i64 t1, .int .u64 t2, .bool plain, .slice xa xn xc, .slice ya yn yc] 35)) := keepc hb5 HX4.out
    have HW5 : Hid (w5.heap[pw]? = some (.cells #[.int .i64 t1, .int .u64 t2, .bool plain, .slice za zn zc, .slice qa qn qc] 28)) := keepc hb5 HW4.out
    clear HB4 HTX4 HTY4 HX4 HW4
    clear hb5
    cases rt with
    | false =>
      go_wp2_with fail
      refine (awake12_any w5).mono ?_
      rintro e w6 ⟨rfl, hb6⟩
      have HF : Hid (Below w.heap.size w w6) := HB5.out.trans (hb6.mono HB5.out.size)
      clear hb6
      go_wp2
      go_ret
      exact ⟨rfl, HF.out⟩
    | true =>
      have hfac := rtxn_facts HRT.out.symm HNN.out
      simp only at hfac
      have HFA : Hid (0 ≤ t1 ∧ t1 ≤ 5 ∧ 0 ≤ t2 ∧ (∀ r ∈ l1, r.key.size ≤ 32 ∧ 0 ≤ r.num ∧ r.num < 18446744073709551616) ∧ (∀ r ∈ l2, r.key.size ≤ 32 ∧ r.val.size ≤ 64) ∧ l1.length ≤ 8 ∧ l2.length ≤ 8) := hfac
      clear hfac
      have HT2 : Hid (t2 < 18446744073709551616) := ht2.2
      have HWRI : Hid (Wri (t1, t2) l1 l2) := ⟨HFA.out.1, by have := HFA.out.2.1; show t1 < _; omega, ht2.1, ht2.2, fun r hr => ⟨Nat.le_trans (HFA.out.2.2.2.1 r hr).1 (by omega), (HFA.out.2.2.2.1 r hr).2⟩, fun r hr => ⟨Nat.le_trans (HFA.out.2.2.2.2.1 r hr).1 (by omega), Nat.le_trans (HFA.out.2.2.2.2.1 r hr).2 (by omega)⟩, HL1.out, HL2.out⟩
      obtain ⟨TB, hTB⟩ : ∃ TB, TB = txnB (t1, t2) plain l1 l2 := ⟨_, rfl⟩
      have HTB : Hid (TB = txnB (t1, t2) plain l1 l2) := hTB
      have HTL : Hid (4 ≤ TB.length ∧ TB.length ≤ 40000) := by rw [hTB]; exact txnB_len _ _ _ _ HWRI.out
      clear hTB ht2
      obtain ⟨x0, x1, x2, x3, x4⟩ := five_cells HX5.out
      have hb9 : Below w5.heap.size w5 (w5.alloc (.cells #[.int .u8 9] 5)) := (Below.refl _ _).alloc (Nat.le_refl _) _
      have hcall := ebytes_any (t1, t2) plain w0.heap.size xa xn xc ya yn yc l1 l2 (some ⟨w5.heap.size, 0, none⟩) 1 1 [9] (w5.alloc (.cells #[.int .u8 9] 5)) (HTX5.out.later hb9) HWRI.out (Row.one w5 9 (by omega)) (by simp) (by omega)
      rw [← HTB.out] at hcall
      go_wp2_with fail
      refine hcall.mono ?_
      clear hcall x0 x1 x2 x3 x4
      rintro e w6 ⟨⟨sa, sn, sc, rfl, hso⟩, hb6⟩
      have hb56 : Below w5.heap.size w5 w6 := hb9.trans (hb6.mono hb9.size)
      have HSO6 : Hid (Own w6 w.heap.size (.slice sa sn sc) ([9] ++ TB)) := hso.mono (Nat.le_trans HB5.out.size hb9.size)
      clear hso hb6 hb9
      have HB6 : Hid (Below w.heap.size w w6) := HB5.out.trans (hb56.mono HB5.out.size)
      have HTX6 : Hid (Tx w6 w0.heap.size xa xn xc ya yn yc l1 l2) := HTX5.out.later hb56
      have HTY6 : Hid (Ty w6 w2.heap.size za zn zc qa qn qc l1 l2) := HTY5.out.later hb56
      have HX6 : Hid (w6.heap[px]? = some (.cells #[.int .i64 t1, .int .u64 t2, .bool plain, .slice xa xn xc, .slice ya yn yc] 35)) := keepc hb56 HX5.out
      have HW6 : Hid (w6.heap[pw]? = some (.cells #[.int .i64 t1, .int .u64 t2, .bool plain, .slice za zn zc, .slice qa qn qc] 28)) := keepc hb56 HW5.out
      clear HB5 HTX5 HTY5 HX5 HW5
      clear hb56
      go_upto_region 8 with fail
      obtain ⟨y0, y1, y2, y3, y4⟩ := five_cells HW6.out
      have HS : Hid (∀ w', Below w6.heap.size w6 w' → Below w6.heap.size w6 w' ∧ w'.cell? ⟨pw, 0, none⟩ = some (.int .i64 t1) ∧ w'.cell? ⟨pw, 1, none⟩ = some (.int .u64 t2) ∧ w'.cell? ⟨pw, 2, none⟩ = some (.bool plain) ∧ w'.cell? ⟨pw, 3, none⟩ = some (.slice za zn zc) ∧ w'.cell? ⟨pw, 4, none⟩ = some (.slice qa qn qc) ∧ (convert 46 9 (.slice sa sn sc)).run Tryd.prog w' = .ok (.string (str ([9] ++ TB))) w') := fun w' hb => ⟨hb, cell_later hb y0, cell_later hb y1, cell_later hb y2, cell_later hb y3, cell_later hb y4, conv_row ((row_of_own HSO6.out).1.later hb) _⟩
      clear y0 y1 y2 y3 y4
      have ha : ∀ w, (Op.stringOp .add ⟨#[9]⟩ (str TB)).run Tryd.prog w = .ok (.string (str ([9] ++ TB))) w := fun w => by have := add_str [9] TB w (by have := HTL.out.2; simp; omega); exact this
      have hu0 : Below w6.heap.size w6 w6.drew := (Below.refl _ _).drew
      refine wp_region_noPanic ?_
      refine wp_region_held_drew (S := (fun w' => Below w6.heap.size w6 w' ∧ w'.cell? ⟨pw, 0, none⟩ = some (.int .i64 t1) ∧ w'.cell? ⟨pw, 1, none⟩ = some (.int .u64 t2) ∧ w'.cell? ⟨pw, 2, none⟩ = some (.bool plain) ∧ w'.cell? ⟨pw, 3, none⟩ = some (.slice za zn zc) ∧ w'.cell? ⟨pw, 4, none⟩ = some (.slice qa qn qc) ∧ (convert 46 9 (.slice sa sn sc)).run Tryd.prog w' = .ok (.string (str ([9] ++ TB))) w')) (by kernel_rfl) ?_ (fun hHeld => ?_)
      · exact HS.out _ hu0
      refine held_take (i := 0) (d := 27) (v := ?_) rfl rfl (by kernel_rfl) (by kernel_rfl) (by kernel_rfl) (fun _ _ _ h => h) (Or.inl ⟨by rfl, ?_⟩) hHeld ?_
      rotate_left
      · (intro w hSw; (try dsimp only at hSw); go_simp; all_goals (with_reducible rfl))
      try simp only [Act.put, List.setIfInBounds_toArray, List.set_cons_zero, List.set_cons_succ]
      refine held_take (i := 1) (d := 28) (v := ?_) rfl rfl (by kernel_rfl) (by kernel_rfl) (by kernel_rfl) (fun _ _ _ h => h) (Or.inl ⟨by rfl, ?_⟩) hHeld ?_
      rotate_left
      · (intro w hSw; (try dsimp only at hSw); go_simp; all_goals (with_reducible rfl))
      try simp only [Act.put, List.setIfInBounds_toArray, List.set_cons_zero, List.set_cons_succ]
      refine held_take (i := 2) (d := 29) (v := ?_) rfl rfl (by kernel_rfl) (by kernel_rfl) (by kernel_rfl) (fun _ _ _ h => h) (Or.inl ⟨by rfl, ?_⟩) hHeld ?_
      rotate_left
      · (intro w hSw; (try dsimp only at hSw); go_simp; all_goals (with_reducible rfl))
      try simp only [Act.put, List.setIfInBounds_toArray, List.set_cons_zero, List.set_cons_succ]
      refine wpAnyH_ready (rs := [3]) (by kernel_rfl) (by simp) ?_
      refine AllReadyH.cons rfl (fun K hK => ?_) AllReadyH.nil
      go_simp
      have hq := putTxn_any (t1, t2) plain w2.heap.size za zn zc qa qn qc l1 l2 w6.drew (HTY6.out.later hu0) HWRI.out
      rw [← HTB.out] at hq
      refine hq.mono ?_
      clear hq
      rintro e u1 ⟨⟨ka, kn, kc, rfl, hok⟩, hx⟩
      have hu1 : Below w6.heap.size w6 u1 := hu0.trans hx
      have r4 := (row_of_own hok).1
      clear hok hx
      go_wp2_with fail
      refine hK.out _ _ ?_ (fun hHeld => ?_)
      · exact HS.out _ hu1
      clear hK K
      try simp only [Act.put, List.setIfInBounds_toArray, List.set_cons_zero, List.set_cons_succ]
      have HS2 : Hid (∀ w', Below u1.heap.size u1 w' → (Below w6.heap.size w6 w' ∧ w'.cell? ⟨pw, 0, none⟩ = some (.int .i64 t1) ∧ w'.cell? ⟨pw, 1, none⟩ = some (.int .u64 t2) ∧ w'.cell? ⟨pw, 2, none⟩ = some (.bool plain) ∧ w'.cell? ⟨pw, 3, none⟩ = some (.slice za zn zc) ∧ w'.cell? ⟨pw, 4, none⟩ = some (.slice qa qn qc) ∧ (convert 46 9 (.slice sa sn sc)).run Tryd.prog w' = .ok (.string (str ([9] ++ TB))) w') ∧ (convert 46 9 (.slice ka kn kc)).run Tryd.prog w' = .ok (.string (str TB)) w') := fun w' hb => ⟨HS.out _ (hu1.trans (hb.mono hu1.size)), conv_row (r4.later hb) _⟩
      refine held_mono (S' := (fun w' => (Below w6.heap.size w6 w' ∧ w'.cell? ⟨pw, 0, none⟩ = some (.int .i64 t1) ∧ w'.cell? ⟨pw, 1, none⟩ = some (.int .u64 t2) ∧ w'.cell? ⟨pw, 2, none⟩ = some (.bool plain) ∧ w'.cell? ⟨pw, 3, none⟩ = some (.slice za zn zc) ∧ w'.cell? ⟨pw, 4, none⟩ = some (.slice qa qn qc) ∧ (convert 46 9 (.slice sa sn sc)).run Tryd.prog w' = .ok (.string (str ([9] ++ TB))) w') ∧ (convert 46 9 (.slice ka kn kc)).run Tryd.prog w' = .ok (.string (str TB)) w')) (fun _ h => h.1) _ _ _ _ ?_
      replace hHeld := HS2.out _ (Below.refl _ _)
      refine held_take (i := 4) (d := 31) (v := ?_) rfl rfl (by kernel_rfl) (by kernel_rfl) (by kernel_rfl) (fun _ _ _ h => h) (Or.inl ⟨by rfl, ?_⟩) hHeld ?_
      rotate_left
      · (intro w hSw; (try dsimp only at hSw); go_simp; all_goals (with_reducible rfl))
      try simp only [Act.put, List.setIfInBounds_toArray, List.set_cons_zero, List.set_cons_succ]
      refine held_take (i := 5) (d := 32) (v := ?_) rfl rfl (by kernel_rfl) (by kernel_rfl) (by kernel_rfl) (fun _ _ _ h => h) (Or.inl ⟨by rfl, ?_⟩) hHeld ?_
      rotate_left
      · (intro w hSw; (try dsimp only at hSw); go_simp; all_goals (with_reducible rfl))
      try simp only [Act.put, List.setIfInBounds_toArray, List.set_cons_zero, List.set_cons_succ]
      refine held_take (i := 6) (d := 33) (v := ?_) rfl rfl (by kernel_rfl) (by kernel_rfl) (by kernel_rfl) (fun _ _ _ h => h) (Or.inl ⟨by rfl, ?_⟩) hHeld ?_
      rotate_left
      · (intro w hSw; (try dsimp only at hSw); go_simp; all_goals (with_reducible rfl))
      try simp only [Act.put, List.setIfInBounds_toArray, List.set_cons_zero, List.set_cons_succ]
      refine wpAnyH_done (by kernel_rfl) ?_ _
      refine NoPanic.normal ?_
      clear hHeld HS HS2 ha r4 hu0
      have HSO7 : Hid (Own u1 w.heap.size (.slice sa sn sc) ([9] ++ TB)) := HSO6.out.later hu1
      clear HSO6
      have HB7 : Hid (Below w.heap.size w u1) := HB6.out.trans (hu1.mono HB6.out.size)
      have HTX7 : Hid (Tx u1 w0.heap.size xa xn xc ya yn yc l1 l2) := HTX6.out.later hu1
      have HTY7 : Hid (Ty u1 w2.heap.size za zn zc qa qn qc l1 l2) := HTY6.out.later hu1
      have HX7 : Hid (u1.heap[px]? = some (.cells #[.int .i64 t1, .int .u64 t2, .bool plain, .slice xa xn xc, .slice ya yn yc] 35)) := keepc hu1 HX6.out
      have HW7 : Hid (u1.heap[pw]? = some (.cells #[.int .i64 t1, .int .u64 t2, .bool plain, .slice za zn zc, .slice qa qn qc] 28)) := keepc hu1 HW6.out
      clear HB6 HTX6 HTY6 HX6 HW6
      clear hu1
      generalize u1 = w7 at *
      have hsl : sn = TB.length + 1 := by have h1 := (row_of_own HSO7.out).1.1; simp at h1; omega
      have hs1 : 1 ≤ sn := by omega
      have HSN : Hid (sn - 1 = TB.length) := by show _ = _; omega
      obtain ⟨gs, ns, cs, e9, -, -, hgl, hnc, hcm⟩ := HSO7.out.form (by simp)
      simp only [Value.slice.injEq] at e9
      obtain ⟨rfl, rfl, rfl⟩ := e9
      have hrow := (row_of_own HSO7.out).1.drop 1 (by omega)
      rw [show List.drop 1 ([9] ++ TB) = TB from rfl] at hrow
      simp only [Nat.zero_add] at hrow
      have hcs : ¬ sc = 1 := by have := HTL.out.1; omega
      have hsi : (1 : Int) ≤ (sn : Int) := by omega
      have hb8 : Below w7.heap.size w7 (w7.alloc (.cells #[] 5)) := (Below.refl _ _).alloc (Nat.le_refl _) _
      have HOE : Hid (Own (w7.alloc (.cells #[] 5)) w7.heap.size (.slice (some ⟨w7.heap.size, 0, none⟩) 0 0) []) := Own.new w7 w7.heap.size (Nat.le_refl _) #[] [] rfl (by simp) (by simp [maxLen])
      have HRE : Hid (Row (w7.alloc (.cells #[] 5)) (some ⟨gs, 1, none⟩) (sn - 1) TB) := hrow.later hb8
      have HBE : Hid (Below w7.heap.size w7 (w7.alloc (.cells #[] 5))) := hb8
      have hLE : ([] : List Nat).length + (sn - 1) ≤ 140737488355328 := by have := HTL.out.2; simp; omega
      clear hrow hb8 hsl hgl
      go_wp2_with (first | (at_builtin; refine wp_append_row rfl _ _ rfl w7.heap.size _ [] rfl HOE.out _ _ _ TB rfl HRE.out (by simp) hLE HBE.out.size ?_; intro v8 w8 ho8 hb8; obtain ⟨ja, jn, jc, rfl⟩ : ∃ a n c, v8 = .slice a n c := (by obtain ⟨a, n, c, e, -⟩ := ho8.slice; exact ⟨_, _, _, e⟩); have HJ8 : Hid (Own w8 w7.heap.size (.slice ja jn jc) TB ∧ Below w7.heap.size w7 w8) := ⟨ho8, HBE.out.trans hb8⟩; have hrb : Row w8 a1 len1 bs := HRB.out.later (HB7.out.trans (HJ8.out.2.mono HB7.out.size)); have hLB : TB.length + len1 ≤ 140737488355328 := (by have := HTL.out.2; omega); clear ho8 hb8) | (at_builtin; refine wp_append_row rfl _ _ rfl w7.heap.size _ TB rfl HJ8.out.1 _ _ _ bs rfl hrb hzz hLB HJ8.out.2.size ?_; intro v9 w9 ho9 hb9; obtain ⟨ka, kn, kc, rfl⟩ : ∃ a n c, v9 = .slice a n c := (by obtain ⟨a, n, c, e, -⟩ := ho9.slice; exact ⟨_, _, _, e⟩); have HK9 : Hid (Own w9 w7.heap.size (.slice ka kn kc) (TB ++ bs) ∧ Below w7.heap.size w7 w9) := ⟨ho9, HJ8.out.2.trans hb9⟩; clear ho9 hb9 hrb hLB))
      have hkl : kn ≤ 1000000 := by have h1 := (row_of_own HK9.out.1).1.1; have h2 := HRB.out.1; have h3 := HTL.out.2; rw [List.length_append] at h1; omega
      have hcall := new_any ka kn kc (TB ++ bs) w9 (row_of_own HK9.out.1).1 (row_of_own HK9.out.1).2 hkl
      refine hcall.mono ?_
      clear hcall hkl
      rintro e w10 ⟨g, rfl, hrd, hgs, hb10⟩
      have HG : Hid (w9.heap.size ≤ g) := hgs
      have HB10 : Hid (Below w9.heap.size w9 w10) := hb10
      rw [HTB.out] at hrd
      have hcall := readTxn_put g (t1, t2) plain l1 l2 bs w10 hrd HRT.out.symm HFI.out HFA.out.1 HFA.out.2.1 HFA.out.2.2.1 HT2.out HFA.out.2.2.2.1 HFA.out.2.2.2.2.1 HFA.out.2.2.2.2.2.1 HFA.out.2.2.2.2.2.2
      clear hgs hb10 hrd
      go_wp2_with fail
      refine hcall.mono ?_
      clear hcall
      rintro e w11 ⟨⟨ea, en, ec, fa, fn, fc, rfl, ho1, ho2⟩, hrd, hoy⟩
      have hb11 : Below w7.heap.size w7 w11 := HK9.out.2.trans ((HB10.out.trans (hoy.below HG.out HB10.out.size)).mono HK9.out.2.size)
      have hb12 : Below w11.heap.size w11 (w11.alloc (.cells #[.int .i64 t1, .int .u64 t2, .bool plain, .slice ea en ec, .slice fa fn fc] 35)) := (Below.refl _ _).alloc (Nat.le_refl _) _
      have hn12 := heap_alloc_new w11 (.cells #[.int .i64 t1, .int .u64 t2, .bool plain, .slice ea en ec, .slice fa fn fc] 35)
      go_upto_region 12 with fail
      generalize w11.alloc (.cells #[.int .i64 t1, .int .u64 t2, .bool plain, .slice ea en ec, .slice fa fn fc] 35) = w12 at *
      have hb712 : Below w7.heap.size w7 w12 := hb11.trans (hb12.mono hb11.size)
      have HB12 : Hid (Below w.heap.size w w12) := HB7.out.trans (hb712.mono HB7.out.size)
      have HTX12 : Hid (Tx w12 w0.heap.size xa xn xc ya yn yc l1 l2) := HTX7.out.later hb712
      have HTY12 : Hid (Ty w12 w2.heap.size za zn zc qa qn qc l1 l2) := HTY7.out.later hb712
      have HX12 : Hid (w12.heap[px]? = some (.cells #[.int .i64 t1, .int .u64 t2, .bool plain, .slice xa xn xc, .slice ya yn yc] 35)) := keepc hb712 HX7.out
      have HW12 : Hid (w12.heap[pw]? = some (.cells #[.int .i64 t1, .int .u64 t2, .bool plain, .slice za zn zc, .slice qa qn qc] 28)) := keepc hb712 HW7.out
      clear HB7 HTX7 HTY7 HX7 HW7
      have HER : Hid (w12.ownsRow w10.heap.size 79 2 (.slice ea en ec) l1.length (l1.flatMap Rdv.cells) ∧ w12.ownsRow w10.heap.size 80 3 (.slice fa fn fc) l2.length (l2.flatMap Wrv.cells)) := ⟨owns_later ho1 hb12, owns_later ho2 hb12⟩
      have HRD : Hid (Rd w12 g (some bs)) := hrd.later hb12
      obtain ⟨x0, x1, x2, x3, x4⟩ := five_cells hn12
      obtain ⟨y0, y1, y2, y3, y4⟩ := five_cells HW12.out
      generalize w11.heap.size = p9 at *
      clear ho1 ho2 hrd hoy hb11 hb12 hn12 hb712 HK9 HB10
      have HS : Hid (∀ w', Below w12.heap.size w12 w' → Below w12.heap.size w12 w' ∧ Rd w' g (some bs) ∧ w'.cell? ⟨p9, 0, none⟩ = some (.int .i64 t1) ∧ w'.cell? ⟨p9, 1, none⟩ = some (.int .u64 t2) ∧ w'.cell? ⟨p9, 2, none⟩ = some (.bool plain) ∧ w'.cell? ⟨p9, 3, none⟩ = some (.slice ea en ec) ∧ w'.cell? ⟨p9, 4, none⟩ = some (.slice fa fn fc) ∧ w'.cell? ⟨pw, 0, none⟩ = some (.int .i64 t1) ∧ w'.cell? ⟨pw, 1, none⟩ = some (.int .u64 t2) ∧ w'.cell? ⟨pw, 2, none⟩ = some (.bool plain) ∧ w'.cell? ⟨pw, 3, none⟩ = some (.slice za zn zc) ∧ w'.cell? ⟨pw, 4, none⟩ = some (.slice qa qn qc)) := fun w' hb => ⟨hb, HRD.out.later hb, cell_later hb x0, cell_later hb x1, cell_later hb x2, cell_later hb x3, cell_later hb x4, cell_later hb y0, cell_later hb y1, cell_later hb y2, cell_later hb y3, cell_later hb y4⟩
      clear x0 x1 x2 x3 x4 y0 y1 y2 y3 y4
      have hu0 : Below w12.heap.size w12 w12.drew := (Below.refl _ _).drew
      refine wp_region_noPanic ?_
      refine wp_region_held_drew (S := (fun w' => Below w12.heap.size w12 w' ∧ Rd w' g (some bs) ∧ w'.cell? ⟨p9, 0, none⟩ = some (.int .i64 t1) ∧ w'.cell? ⟨p9, 1, none⟩ = some (.int .u64 t2) ∧ w'.cell? ⟨p9, 2, none⟩ = some (.bool plain) ∧ w'.cell? ⟨p9, 3, none⟩ = some (.slice ea en ec) ∧ w'.cell? ⟨p9, 4, none⟩ = some (.slice fa fn fc) ∧ w'.cell? ⟨pw, 0, none⟩ = some (.int .i64 t1) ∧ w'.cell? ⟨pw, 1, none⟩ = some (.int .u64 t2) ∧ w'.cell? ⟨pw, 2, none⟩ = some (.bool plain) ∧ w'.cell? ⟨pw, 3, none⟩ = some (.slice za zn zc) ∧ w'.cell? ⟨pw, 4, none⟩ = some (.slice qa qn qc))) (by kernel_rfl) ?_ (fun hHeld => ?_)
      · exact HS.out _ hu0
      refine held_take (i := 0) (d := 46) (v := ?_) rfl rfl (by kernel_rfl) (by kernel_rfl) (by kernel_rfl) (fun _ _ _ h => h) (Or.inl ⟨by rfl, ?_⟩) hHeld ?_
      rotate_left
      · (intro w hSw; (try dsimp only at hSw); go_simp; all_goals (with_reducible rfl))
      try simp only [Act.put, List.setIfInBounds_toArray, List.set_cons_zero, List.set_cons_succ]
      refine held_take (i := 1) (d := 47) (v := ?_) rfl rfl (by kernel_rfl) (by kernel_rfl) (by kernel_rfl) (fun _ _ _ h => h) (Or.inl ⟨by rfl, ?_⟩) hHeld ?_
      rotate_left
      · (intro w hSw; (try dsimp only at hSw); go_simp; all_goals (with_reducible rfl))
      try simp only [Act.put, List.setIfInBounds_toArray, List.set_cons_zero, List.set_cons_succ]
      refine held_take (i := 2) (d := 48) (v := ?_) rfl rfl (by kernel_rfl) (by kernel_rfl) (by kernel_rfl) (fun _ _ _ h => h) (Or.inl ⟨by rfl, ?_⟩) hHeld ?_
      rotate_left
      · (intro w hSw; (try dsimp only at hSw); go_simp; all_goals (with_reducible rfl))
      try simp only [Act.put, List.setIfInBounds_toArray, List.set_cons_zero, List.set_cons_succ]
      refine held_take (i := 4) (d := 50) (v := ?_) rfl rfl (by kernel_rfl) (by kernel_rfl) (by kernel_rfl) (fun _ _ _ h => h) (Or.inl ⟨by rfl, ?_⟩) hHeld ?_
      rotate_left
      · (intro w hSw; (try dsimp only at hSw); go_simp; all_goals (with_reducible rfl))
      try simp only [Act.put, List.setIfInBounds_toArray, List.set_cons_zero, List.set_cons_succ]
      refine wpAnyH_ready (rs := [3]) (by kernel_rfl) (by simp) ?_
      refine AllReadyH.cons rfl (fun K hK => ?_) AllReadyH.nil
      go_simp
      have hq := plain_any (t1, t2) plain w10.heap.size (.slice ea en ec) (.slice fa fn fc) l1 l2 w12.drew (owns_later HER.out.1 hu0) (owns_later HER.out.2 hu0) HL1.out HL2.out
      refine hq.mono ?_
      clear hq
      rintro e u1 ⟨⟨v5, v6, rfl, ho5, ho6⟩, hx⟩
      obtain ⟨ia, im, ic, rfl⟩ := owns_slice ho5
      obtain ⟨ma, mn, mc, rfl⟩ := owns_slice ho6
      have hu1 : Below w12.heap.size w12 u1 := hu0.trans hx
      have HIY : Hid (Ty u1 w12.drew.heap.size ia im ic ma mn mc l1 l2) := ⟨ho5, ho6, HFI.out, HL1.out, HL2.out⟩
      clear hx ho5 ho6
      go_wp2_with fail
      refine hK.out _ _ ?_ (fun hHeld => ?_)
      · exact HS.out _ hu1
      clear hK K
      try simp only [Act.put, List.setIfInBounds_toArray, List.set_cons_zero, List.set_cons_succ]
      refine wpAnyH_ready (rs := [5]) (by kernel_rfl) (by simp) ?_
      refine AllReadyH.cons rfl (fun K hK => ?_) AllReadyH.nil
      go_simp
      have hq := rsame_let (t1, t2) plain w12.drew.heap.size w2.heap.size ia za im zn ic zc ma qa mn qn mc qc l1 l2 u1 HIY.out (HTY12.out.later hu1)
      refine hq.mono ?_
      clear hq
      rintro e u2 ⟨rfl, hx⟩
      have hu2 : Below w12.heap.size w12 u2 := hu1.trans (hx.mono hu1.size)
      clear hx
      go_wp2_with fail
      refine hK.out _ _ ?_ (fun hHeld => ?_)
      · exact HS.out _ hu2
      clear hK K
      try simp only [Act.put, List.setIfInBounds_toArray, List.set_cons_zero, List.set_cons_succ]
      refine held_take (i := 6) (d := 52) (v := ?_) rfl rfl (by kernel_rfl) (by kernel_rfl) (by kernel_rfl) (fun _ _ _ h => h) (Or.inl ⟨by rfl, ?_⟩) hHeld ?_
      rotate_left
      · (intro w hSw; (try dsimp only at hSw); go_simp; all_goals (with_reducible rfl))
      try simp only [Act.put, List.setIfInBounds_toArray, List.set_cons_zero, List.set_cons_succ]
      refine held_take (i := 7) (d := 53) (v := ?_) rfl rfl (by kernel_rfl) (by kernel_rfl) (by kernel_rfl) (fun _ _ _ h => h) (Or.inl ⟨by rfl, ?_⟩) hHeld ?_
      rotate_left
      · (intro w hSw; (try dsimp only at hSw); go_simp; all_goals (with_reducible rfl))
      try simp only [Act.put, List.setIfInBounds_toArray, List.set_cons_zero, List.set_cons_succ]
      refine held_take (i := 8) (d := 54) (v := ?_) rfl rfl (by kernel_rfl) (by kernel_rfl) (by kernel_rfl) (fun _ _ _ h => h) (Or.inl ⟨by rfl, ?_⟩) hHeld ?_
      rotate_left
      · (intro w hSw; (try dsimp only at hSw); go_simp; all_goals (with_reducible rfl))
      try simp only [Act.put, List.setIfInBounds_toArray, List.set_cons_zero, List.set_cons_succ]
      refine held_take (i := 10) (d := 56) (v := ?_) rfl rfl (by kernel_rfl) (by kernel_rfl) (by kernel_rfl) (fun _ _ _ h => h) (Or.inl ⟨by rfl, ?_⟩) hHeld ?_
      rotate_left
      · (intro w hSw; (try dsimp only at hSw); go_simp; all_goals (with_reducible rfl))
      try simp only [Act.put, List.setIfInBounds_toArray, List.set_cons_zero, List.set_cons_succ]
      refine held_take (i := 11) (d := 57) (v := ?_) rfl rfl (by kernel_rfl) (by kernel_rfl) (by kernel_rfl) (fun _ _ _ h => h) (Or.inl ⟨by rfl, ?_⟩) hHeld ?_
      rotate_left
      · (intro w hSw; (try dsimp only at hSw); go_simp; all_goals (with_reducible rfl))
      try simp only [Act.put, List.setIfInBounds_toArray, List.set_cons_zero, List.set_cons_succ]
      refine wpAnyH_ready (rs := [9]) (by kernel_rfl) (by simp) ?_
      refine AllReadyH.cons rfl (fun K hK => ?_) AllReadyH.nil
      go_simp
      refine (left_any g _ _ hHeld.2.1).mono ?_
      rintro e u3 ⟨rfl, hw⟩
      subst u3
      rw [show ((some bs : Option (List Nat)).getD []).length = len1 from HRB.out.1]
      go_wp2_with fail
      refine hK.out _ _ ?_ (fun hHeld => ?_)
      · exact HS.out _ hu2
      clear hK K
      try simp only [Act.put, List.setIfInBounds_toArray, List.set_cons_zero, List.set_cons_succ]
      refine held_take (i := 12) (d := 58) (v := ?_) rfl rfl (by kernel_rfl) (by kernel_rfl) (by kernel_rfl) (fun _ _ _ h => h) (Or.inl ⟨by rfl, ?_⟩) hHeld ?_
      rotate_left
      · (intro w hSw; (try dsimp only at hSw); go_simp; all_goals (with_reducible rfl))
      try simp only [Act.put, List.setIfInBounds_toArray, List.set_cons_zero, List.set_cons_succ]
      refine held_take (i := 13) (d := 59) (v := ?_) rfl rfl (by kernel_rfl) (by kernel_rfl) (by kernel_rfl) (fun _ _ _ h => h) (Or.inl ⟨by rfl, ?_⟩) hHeld ?_
      rotate_left
      · (intro w hSw; (try dsimp only at hSw); go_simp; all_goals (with_reducible rfl))
      try simp only [Act.put, List.setIfInBounds_toArray, List.set_cons_zero, List.set_cons_succ]
      refine held_take (i := 14) (d := 60) (v := ?_) rfl rfl (by kernel_rfl) (by kernel_rfl) (by kernel_rfl) (fun _ _ _ h => h) (Or.inl ⟨by rfl, ?_⟩) hHeld ?_
      rotate_left
      · (intro w hSw; (try dsimp only at hSw); go_simp; all_goals (with_reducible rfl))
      try simp only [Act.put, List.setIfInBounds_toArray, List.set_cons_zero, List.set_cons_succ]
      refine wpAnyH_ready (rs := [15]) (by kernel_rfl) (by simp) ?_
      refine AllReadyH.cons rfl (fun K hK => ?_) AllReadyH.nil
      go_simp
      have hq := awake12_any u2
      refine hq.mono ?_
      clear hq
      rintro e u4 ⟨rfl, hx⟩
      have hu4 : Below w12.heap.size w12 u4 := hu2.trans (hx.mono hu2.size)
      clear hx
      go_wp2_with fail
      refine hK.out _ _ ?_ (fun hHeld => ?_)
      · exact HS.out _ hu4
      clear hK K
      try simp only [Act.put, List.setIfInBounds_toArray, List.set_cons_zero, List.set_cons_succ]
      refine held_take (i := 16) (d := 62) (v := ?_) rfl rfl (by kernel_rfl) (by kernel_rfl) (by kernel_rfl) (fun _ _ _ h => h) (Or.inl ⟨by rfl, ?_⟩) hHeld ?_
      rotate_left
      · (intro w hSw; (try dsimp only at hSw); go_simp; all_goals (with_reducible rfl))
      try simp only [Act.put, List.setIfInBounds_toArray, List.set_cons_zero, List.set_cons_succ]
      refine held_take (i := 17) (d := 4) (v := ?_) rfl rfl (by kernel_rfl) (by kernel_rfl) (by kernel_rfl) (fun _ _ _ h => h) (Or.inl ⟨by rfl, ?_⟩) hHeld ?_
      rotate_left
      · (intro w hSw; (try dsimp only at hSw); go_simp; all_goals (with_reducible rfl))
      try simp only [Act.put, List.setIfInBounds_toArray, List.set_cons_zero, List.set_cons_succ]
      refine wpAnyH_done (by kernel_rfl) ?_ _
      refine NoPanic.normal ?_
      clear hHeld HS
      have HF : Hid (Below w.heap.size w u4) := HB12.out.trans (hu4.mono HB12.out.size)
      go_wp2
      go_ret
      exact ⟨rfl, HF.out⟩
  · obtain ⟨ab, aoff, rfl⟩ := w1.addr (by omega)
    have HRB : Hid (Row w (some ⟨ab, aoff, none⟩) 60 (firsts z1 60)) := w1.row 60 (by omega)
    have h60 : len1 ≤ cap1 := f1.1
    generalize firsts z1 60 = bs at HRB
    clear w1 f1
    obtain ⟨⟨t1, t2⟩, plain, ra, rn, rc, wa, wn, wc, R, W⟩ := i0
    have hnn := ten_nums w0.kn
    have w0 := w0.ok
    have hR : Rds w ra rn R := w0.r
    have hW : Wrs w wa wn W := w0.w
    have hf : Fine (tenR rn R) (tenW wn W) := ⟨ten_keys w0.kr, ten_keysW w0.kw, ten_valsW w0.kw⟩
    have hmin : IntKind.u64.min = 0 := by decide
    have hmax : IntKind.u64.max = 18446744073709551615 := by decide
    have ht2 : 0 ≤ t2 ∧ t2 < 18446744073709551616 := by have := w0.i2; simp [Lit.wf] at this; omega
    clear hmax
    clear hmin
    have HNN : Hid (∀ x ∈ tenR rn R, 0 ≤ x.num ∧ x.num < 18446744073709551616) := hnn
    clear hnn
    have hl1 := tenR_length rn R
    have hl2 := tenW_length wn W
    clear w0
    have hb0 : Below w.heap.size w (w.alloc (.cells #[.int .i64 t1, .int .u64 t2, .bool plain, .slice ra rn rc, .slice wa wn wc] 28)) := (Below.refl _ _).alloc (Nat.le_refl _) _
    have hcall := our_any (t1, t2) plain ra rn rc wa wn wc R W (w.alloc (.cells #[.int .i64 t1, .int .u64 t2, .bool plain, .slice ra rn rc, .slice wa wn wc] 28)) (hR.later hb0) (hW.later hb0)
    generalize tenR rn R = l1 at *
    generalize tenW wn W = l2 at *
    clear hR hW
    have HL1 : Hid (l1.length ≤ 10) := hl1
    have HL2 : Hid (l2.length ≤ 10) := hl2
    have HFI : Hid (Fine l1 l2) := hf
    clear hl1 hl2 hf
    go_enter Tryd.func4, Tryd.ntmps4
    go_wp2_with fail
    generalize w.alloc (.cells #[.int .i64 t1, .int .u64 t2, .bool plain, .slice ra rn rc, .slice wa wn wc] 28) = w0 at *
    refine hcall.mono ?_
    clear hcall
    rintro e w1 ⟨⟨v1, v2, rfl, ho1, ho2⟩, hb1⟩
    have HB1 : Hid (Below w.heap.size w w1) := hb0.trans (hb1.mono hb0.size)
    obtain ⟨xa, xn, xc, rfl⟩ := owns_slice ho1
    obtain ⟨ya, yn, yc, rfl⟩ := owns_slice ho2
    have htx : Tx w1 w0.heap.size xa xn xc ya yn yc l1 l2 := ⟨ho1, ho2, HFI.out, Nat.le_trans HL1.out (by omega), Nat.le_trans HL2.out (by omega), owns_len ho1, owns_len ho2⟩
    clear ho1 ho2 hb0 hb1
    have hb2 : Below w1.heap.size w1 (w1.alloc (.cells #[.int .i64 t1, .int .u64 t2, .bool plain, .slice xa xn xc, .slice ya yn yc] 35)) := (Below.refl _ _).alloc (Nat.le_refl _) _
    have hn2 := heap_alloc_new w1 (.cells #[.int .i64 t1, .int .u64 t2, .bool plain, .slice xa xn xc, .slice ya yn yc] 35)
    go_upto_region 2 with fail
    generalize w1.alloc (.cells #[.int .i64 t1, .int .u64 t2, .bool plain, .slice xa xn xc, .slice ya yn yc] 35) = w2 at *
    have HB2 : Hid (Below w.heap.size w w2) := HB1.out.trans (hb2.mono HB1.out.size)
    have HTX2 : Hid (Tx w2 w0.heap.size xa xn xc ya yn yc l1 l2) := htx.later hb2
    have HN2 : Hid (w2.heap[w1.heap.size]? = some (.cells #[.int .i64 t1, .int .u64 t2, .bool plain, .slice xa xn xc, .slice ya yn yc] 35)) := hn2
    clear hb2 hn2 htx HB1
    generalize w1.heap.size = px at *
    obtain ⟨x0, x1, x2, x3, x4⟩ := five_cells HN2.out
    have hcall := plain_any (t1, t2) plain w0.heap.size (.slice xa xn xc) (.slice ya yn yc) l1 l2 w2 HTX2.out.r HTX2.out.w HL1.out HL2.out
    go_wp2_with fail
    refine hcall.mono ?_
    clear hcall x0 x1 x2 x3 x4
    rintro e w3 ⟨⟨v3, v4, rfl, ho3, ho4⟩, hb3⟩
    obtain ⟨za, zn, zc, rfl⟩ := owns_slice ho3
    obtain ⟨qa, qn, qc, rfl⟩ := owns_slice ho4
    have htr : Ty w3 w2.heap.size za zn zc qa qn qc l1 l2 := ⟨ho3, ho4, HFI.out, HL1.out, HL2.out⟩
    have HB3 : Hid (Below w.heap.size w w3) := HB2.out.trans (hb3.mono HB2.out.size)
    have HTX3 : Hid (Tx w3 w0.heap.size xa xn xc ya yn yc l1 l2) := HTX2.out.later hb3
    have HN3 : Hid (w3.heap[px]? = some (.cells #[.int .i64 t1, .int .u64 t2, .bool plain, .slice xa xn xc, .slice ya yn yc] 35)) := keepc hb3 HN2.out
    clear ho3 ho4 hb3 HB2 HTX2 HN2
    have hb4 : Below w3.heap.size w3 (w3.alloc (.cells #[.int .i64 t1, .int .u64 t2, .bool plain, .slice za zn zc, .slice qa qn qc] 28)) := (Below.refl _ _).alloc (Nat.le_refl _) _
    have hn4 := heap_alloc_new w3 (.cells #[.int .i64 t1, .int .u64 t2, .bool plain, .slice za zn zc, .slice qa qn qc] 28)
    go_upto_region 3 with fail
    generalize w3.alloc (.cells #[.int .i64 t1, .int .u64 t2, .bool plain, .slice za zn zc, .slice qa qn qc] 28) = w4 at *
    have HB4 : Hid (Below w.heap.size w w4) := HB3.out.trans (hb4.mono HB3.out.size)
    have HTX4 : Hid (Tx w4 w0.heap.size xa xn xc ya yn yc l1 l2) := HTX3.out.later hb4
    have HTY4 : Hid (Ty w4 w2.heap.size za zn zc qa qn qc l1 l2) := htr.later hb4
    have HX4 : Hid (w4.heap[px]? = some (.cells #[.int .i64 t1, .int .u64 t2, .bool plain, .slice xa xn xc, .slice ya yn yc] 35)) := keepc hb4 HN3.out
    have HW4 : Hid (w4.heap[w3.heap.size]? = some (.cells #[.int .i64 t1, .int .u64 t2, .bool plain, .slice za zn zc, .slice qa qn qc] 28)) := hn4
    clear hb4 htr HB3 HTX3 HN3 hn4
    generalize w3.heap.size = pw at *
    obtain ⟨y0, y1, y2, y3, y4⟩ := five_cells HW4.out
    have hcall := ref_rightTxn_any (t1, t2) plain w2.heap.size (.slice za zn zc) (.slice qa qn qc) l1 l2 w4 HTY4.out.r HTY4.out.w ht2.1 HL1.out HL2.out HFI.out.r (fun x hx => ⟨HFI.out.k x hx, HFI.out.v x hx⟩)
    obtain ⟨rt, hrt⟩ : ∃ rt, rt = rtxn (t1, t2) plain l1 l2 := ⟨_, rfl⟩
    rw [← hrt] at hcall
    have HRT : Hid (rt = rtxn (t1, t2) plain l1 l2) := hrt
    clear hrt
    go_wp2_with fail
    refine hcall.mono ?_
    clear hcall y0 y1 y2 y3 y4
    rintro e w5 ⟨rfl, hb5⟩
    have HB5 : Hid (Below w.heap.size w w5) := HB4.out.trans (hb5.mono HB4.out.size)
    have HTX5 : Hid (Tx w5 w0.heap.size xa xn xc ya yn yc l1 l2) := HTX4.out.later hb5
    have HTY5 : Hid (Ty w5 w2.heap.size za zn zc qa qn qc l1 l2) := HTY4.out.later hb5
    have HX5 : Hid (w5.heap[px]? = some (.cells #[.int .i64 t1, .int .u64 t2, .bool plain, .slice xa xn xc, .slice ya yn yc] 35)) := keepc hb5 HX4.out
    have HW5 : Hid (w5.heap[pw]? = some (.cells #[.int .i64 t1, .int .u64 t2, .bool plain, .slice za zn zc, .slice qa qn qc] 28)) := keepc hb5 HW4.out
    clear HB4 HTX4 HTY4 HX4 HW4
    clear hb5
    cases rt with
    | false =>
      go_wp2_with fail
      refine (awake12_any w5).mono ?_
      rintro e w6 ⟨rfl, hb6⟩
      have HF : Hid (Below w.heap.size w w6) := HB5.out.trans (hb6.mono HB5.out.size)
      clear hb6
      go_wp2
      go_ret
      exact ⟨rfl, HF.out⟩
    | true =>
      have hfac := rtxn_facts HRT.out.symm HNN.out
      simp only at hfac
      have HFA : Hid (0 ≤ t1 ∧ t1 ≤ 5 ∧ 0 ≤ t2 ∧ (∀ r ∈ l1, r.key.size ≤ 32 ∧ 0 ≤ r.num ∧ r.num < 18446744073709551616) ∧ (∀ r ∈ l2, r.key.size ≤ 32 ∧ r.val.size ≤ 64) ∧ l1.length ≤ 8 ∧ l2.length ≤ 8) := hfac
      clear hfac
      have HT2 : Hid (t2 < 18446744073709551616) := ht2.2
      have HWRI : Hid (Wri (t1, t2) l1 l2) := ⟨HFA.out.1, by have := HFA.out.2.1; show t1 < _; omega, ht2.1, ht2.2, fun r hr => ⟨Nat.le_trans (HFA.out.2.2.2.1 r hr).1 (by omega), (HFA.out.2.2.2.1 r hr).2⟩, fun r hr => ⟨Nat.le_trans (HFA.out.2.2.2.2.1 r hr).1 (by omega), Nat.le_trans (HFA.out.2.2.2.2.1 r hr).2 (by omega)⟩, HL1.out, HL2.out⟩
      obtain ⟨TB, hTB⟩ : ∃ TB, TB = txnB (t1, t2) plain l1 l2 := ⟨_, rfl⟩
      have HTB : Hid (TB = txnB (t1, t2) plain l1 l2) := hTB
      have HTL : Hid (4 ≤ TB.length ∧ TB.length ≤ 40000) := by rw [hTB]; exact txnB_len _ _ _ _ HWRI.out
      clear hTB ht2
      obtain ⟨x0, x1, x2, x3, x4⟩ := five_cells HX5.out
      have hb9 : Below w5.heap.size w5 (w5.alloc (.cells #[.int .u8 9] 5)) := (Below.refl _ _).alloc (Nat.le_refl _) _
      have hcall := ebytes_any (t1, t2) plain w0.heap.size xa xn xc ya yn yc l1 l2 (some ⟨w5.heap.size, 0, none⟩) 1 1 [9] (w5.alloc (.cells #[.int .u8 9] 5)) (HTX5.out.later hb9) HWRI.out (Row.one w5 9 (by omega)) (by simp) (by omega)
      rw [← HTB.out] at hcall
      go_wp2_with fail
      refine hcall.mono ?_
      clear hcall x0 x1 x2 x3 x4
      rintro e w6 ⟨⟨sa, sn, sc, rfl, hso⟩, hb6⟩
      have hb56 : Below w5.heap.size w5 w6 := hb9.trans (hb6.mono hb9.size)
      have HSO6 : Hid (Own w6 w.heap.size (.slice sa sn sc) ([9] ++ TB)) := hso.mono (Nat.le_trans HB5.out.size hb9.size)
      clear hso hb6 hb9
      have HB6 : Hid (Below w.heap.size w w6) := HB5.out.trans (hb56.mono HB5.out.size)
      have HTX6 : Hid (Tx w6 w0.heap.size xa xn xc ya yn yc l1 l2) := HTX5.out.later hb56
      have HTY6 : Hid (Ty w6 w2.heap.size za zn zc qa qn qc l1 l2) := HTY5.out.later hb56
      have HX6 : Hid (w6.heap[px]? = some (.cells #[.int .i64 t1, .int .u64 t2, .bool plain, .slice xa xn xc, .slice ya yn yc] 35)) := keepc hb56 HX5.out
      have HW6 : Hid (w6.heap[pw]? = some (.cells #[.int .i64 t1, .int .u64 t2, .bool plain, .slice za zn zc, .slice qa qn qc] 28)) := keepc hb56 HW5.out
      clear HB5 HTX5 HTY5 HX5 HW5
      clear hb56
      go_upto_region 8 with fail
      obtain ⟨y0, y1, y2, y3, y4⟩ := five_cells HW6.out
      have HS : Hid (∀ w', Below w6.heap.size w6 w' → Below w6.heap.size w6 w' ∧ w'.cell? ⟨pw, 0, none⟩ = some (.int .i64 t1) ∧ w'.cell? ⟨pw, 1, none⟩ = some (.int .u64 t2) ∧ w'.cell? ⟨pw, 2, none⟩ = some (.bool plain) ∧ w'.cell? ⟨pw, 3, none⟩ = some (.slice za zn zc) ∧ w'.cell? ⟨pw, 4, none⟩ = some (.slice qa qn qc) ∧ (convert 46 9 (.slice sa sn sc)).run Tryd.prog w' = .ok (.string (str ([9] ++ TB))) w') := fun w' hb => ⟨hb, cell_later hb y0, cell_later hb y1, cell_later hb y2, cell_later hb y3, cell_later hb y4, conv_row ((row_of_own HSO6.out).1.later hb) _⟩
      clear y0 y1 y2 y3 y4
      have ha : ∀ w, (Op.stringOp .add ⟨#[9]⟩ (str TB)).run Tryd.prog w = .ok (.string (str ([9] ++ TB))) w := fun w => by have := add_str [9] TB w (by have := HTL.out.2; simp; omega); exact this
      have hu0 : Below w6.heap.size w6 w6.drew := (Below.refl _ _).drew
      refine wp_region_noPanic ?_
      refine wp_region_held_drew (S := (fun w' => Below w6.heap.size w6 w' ∧ w'.cell? ⟨pw, 0, none⟩ = some (.int .i64 t1) ∧ w'.cell? ⟨pw, 1, none⟩ = some (.int .u64 t2) ∧ w'.cell? ⟨pw, 2, none⟩ = some (.bool plain) ∧ w'.cell? ⟨pw, 3, none⟩ = some (.slice za zn zc) ∧ w'.cell? ⟨pw, 4, none⟩ = some (.slice qa qn qc) ∧ (convert 46 9 (.slice sa sn sc)).run Tryd.prog w' = .ok (.string (str ([9] ++ TB))) w')) (by kernel_rfl) ?_ (fun hHeld => ?_)
      · exact HS.out _ hu0
      refine held_take (i := 0) (d := 27) (v := ?_) rfl rfl (by kernel_rfl) (by kernel_rfl) (by kernel_rfl) (fun _ _ _ h => h) (Or.inl ⟨by rfl, ?_⟩) hHeld ?_
      rotate_left
      · (intro w hSw; (try dsimp only at hSw); go_simp; all_goals (with_reducible rfl))
      try simp only [Act.put, List.setIfInBounds_toArray, List.set_cons_zero, List.set_cons_succ]
      refine held_take (i := 1) (d := 28) (v := ?_) rfl rfl (by kernel_rfl) (by kernel_rfl) (by kernel_rfl) (fun _ _ _ h => h) (Or.inl ⟨by rfl, ?_⟩) hHeld ?_
      rotate_left
      · (intro w hSw; (try dsimp only at hSw); go_simp; all_goals (with_reducible rfl))
      try simp only [Act.put, List.setIfInBounds_toArray, List.set_cons_zero, List.set_cons_succ]
      refine held_take (i := 2) (d := 29) (v := ?_) rfl rfl (by kernel_rfl) (by kernel_rfl) (by kernel_rfl) (fun _ _ _ h => h) (Or.inl ⟨by rfl, ?_⟩) hHeld ?_
      rotate_left
      · (intro w hSw; (try dsimp only at hSw); go_simp; all_goals (with_reducible rfl))
      try simp only [Act.put, List.setIfInBounds_toArray, List.set_cons_zero, List.set_cons_succ]
      refine wpAnyH_ready (rs := [3]) (by kernel_rfl) (by simp) ?_
      refine AllReadyH.cons rfl (fun K hK => ?_) AllReadyH.nil
      go_simp
      have hq := putTxn_any (t1, t2) plain w2.heap.size za zn zc qa qn qc l1 l2 w6.drew (HTY6.out.later hu0) HWRI.out
      rw [← HTB.out] at hq
      refine hq.mono ?_
      clear hq
      rintro e u1 ⟨⟨ka, kn, kc, rfl, hok⟩, hx⟩
      have hu1 : Below w6.heap.size w6 u1 := hu0.trans hx
      have r4 := (row_of_own hok).1
      clear hok hx
      go_wp2_with fail
      refine hK.out _ _ ?_ (fun hHeld => ?_)
      · exact HS.out _ hu1
      clear hK K
      try simp only [Act.put, List.setIfInBounds_toArray, List.set_cons_zero, List.set_cons_succ]
      have HS2 : Hid (∀ w', Below u1.heap.size u1 w' → (Below w6.heap.size w6 w' ∧ w'.cell? ⟨pw, 0, none⟩ = some (.int .i64 t1) ∧ w'.cell? ⟨pw, 1, none⟩ = some (.int .u64 t2) ∧ w'.cell? ⟨pw, 2, none⟩ = some (.bool plain) ∧ w'.cell? ⟨pw, 3, none⟩ = some (.slice za zn zc) ∧ w'.cell? ⟨pw, 4, none⟩ = some (.slice qa qn qc) ∧ (convert 46 9 (.slice sa sn sc)).run Tryd.prog w' = .ok (.string (str ([9] ++ TB))) w') ∧ (convert 46 9 (.slice ka kn kc)).run Tryd.prog w' = .ok (.string (str TB)) w') := fun w' hb => ⟨HS.out _ (hu1.trans (hb.mono hu1.size)), conv_row (r4.later hb) _⟩
      refine held_mono (S' := (fun w' => (Below w6.heap.size w6 w' ∧ w'.cell? ⟨pw, 0, none⟩ = some (.int .i64 t1) ∧ w'.cell? ⟨pw, 1, none⟩ = some (.int .u64 t2) ∧ w'.cell? ⟨pw, 2, none⟩ = some (.bool plain) ∧ w'.cell? ⟨pw, 3, none⟩ = some (.slice za zn zc) ∧ w'.cell? ⟨pw, 4, none⟩ = some (.slice qa qn qc) ∧ (convert 46 9 (.slice sa sn sc)).run Tryd.prog w' = .ok (.string (str ([9] ++ TB))) w') ∧ (convert 46 9 (.slice ka kn kc)).run Tryd.prog w' = .ok (.string (str TB)) w')) (fun _ h => h.1) _ _ _ _ ?_
      replace hHeld := HS2.out _ (Below.refl _ _)
      refine held_take (i := 4) (d := 31) (v := ?_) rfl rfl (by kernel_rfl) (by kernel_rfl) (by kernel_rfl) (fun _ _ _ h => h) (Or.inl ⟨by rfl, ?_⟩) hHeld ?_
      rotate_left
      · (intro w hSw; (try dsimp only at hSw); go_simp; all_goals (with_reducible rfl))
      try simp only [Act.put, List.setIfInBounds_toArray, List.set_cons_zero, List.set_cons_succ]
      refine held_take (i := 5) (d := 32) (v := ?_) rfl rfl (by kernel_rfl) (by kernel_rfl) (by kernel_rfl) (fun _ _ _ h => h) (Or.inl ⟨by rfl, ?_⟩) hHeld ?_
      rotate_left
      · (intro w hSw; (try dsimp only at hSw); go_simp; all_goals (with_reducible rfl))
      try simp only [Act.put, List.setIfInBounds_toArray, List.set_cons_zero, List.set_cons_succ]
      refine held_take (i := 6) (d := 33) (v := ?_) rfl rfl (by kernel_rfl) (by kernel_rfl) (by kernel_rfl) (fun _ _ _ h => h) (Or.inl ⟨by rfl, ?_⟩) hHeld ?_
      rotate_left
      · (intro w hSw; (try dsimp only at hSw); go_simp; all_goals (with_reducible rfl))
      try simp only [Act.put, List.setIfInBounds_toArray, List.set_cons_zero, List.set_cons_succ]
      refine wpAnyH_done (by kernel_rfl) ?_ _
      refine NoPanic.normal ?_
      clear hHeld HS HS2 ha r4 hu0
      have HSO7 : Hid (Own u1 w.heap.size (.slice sa sn sc) ([9] ++ TB)) := HSO6.out.later hu1
      clear HSO6
      have HB7 : Hid (Below w.heap.size w u1) := HB6.out.trans (hu1.mono HB6.out.size)
      have HTX7 : Hid (Tx u1 w0.heap.size xa xn xc ya yn yc l1 l2) := HTX6.out.later hu1
      have HTY7 : Hid (Ty u1 w2.heap.size za zn zc qa qn qc l1 l2) := HTY6.out.later hu1
      have HX7 : Hid (u1.heap[px]? = some (.cells #[.int .i64 t1, .int .u64 t2, .bool plain, .slice xa xn xc, .slice ya yn yc] 35)) := keepc hu1 HX6.out
      have HW7 : Hid (u1.heap[pw]? = some (.cells #[.int .i64 t1, .int .u64 t2, .bool plain, .slice za zn zc, .slice qa qn qc] 28)) := keepc hu1 HW6.out
      clear HB6 HTX6 HTY6 HX6 HW6
      clear hu1
      generalize u1 = w7 at *
      have hsl : sn = TB.length + 1 := by have h1 := (row_of_own HSO7.out).1.1; simp at h1; omega
      have hs1 : 1 ≤ sn := by omega
      have HSN : Hid (sn - 1 = TB.length) := by show _ = _; omega
      obtain ⟨gs, ns, cs, e9, -, -, hgl, hnc, hcm⟩ := HSO7.out.form (by simp)
      simp only [Value.slice.injEq] at e9
      obtain ⟨rfl, rfl, rfl⟩ := e9
      have hrow := (row_of_own HSO7.out).1.drop 1 (by omega)
      rw [show List.drop 1 ([9] ++ TB) = TB from rfl] at hrow
      simp only [Nat.zero_add] at hrow
      have hcs : ¬ sc = 1 := by have := HTL.out.1; omega
      have hsi : (1 : Int) ≤ (sn : Int) := by omega
      have hb8 : Below w7.heap.size w7 (w7.alloc (.cells #[] 5)) := (Below.refl _ _).alloc (Nat.le_refl _) _
      have HOE : Hid (Own (w7.alloc (.cells #[] 5)) w7.heap.size (.slice (some ⟨w7.heap.size, 0, none⟩) 0 0) []) := Own.new w7 w7.heap.size (Nat.le_refl _) #[] [] rfl (by simp) (by simp [maxLen])
      have HRE : Hid (Row (w7.alloc (.cells #[] 5)) (some ⟨gs, 1, none⟩) (sn - 1) TB) := hrow.later hb8
      have HBE : Hid (Below w7.heap.size w7 (w7.alloc (.cells #[] 5))) := hb8
      have hLE : ([] : List Nat).length + (sn - 1) ≤ 140737488355328 := by have := HTL.out.2; simp; omega
      clear hrow hb8 hsl hgl
      go_wp2_with (first | (at_builtin; refine wp_append_row rfl _ _ rfl w7.heap.size _ [] rfl HOE.out _ _ _ TB rfl HRE.out (by simp) hLE HBE.out.size ?_; intro v8 w8 ho8 hb8; obtain ⟨ja, jn, jc, rfl⟩ : ∃ a n c, v8 = .slice a n c := (by obtain ⟨a, n, c, e, -⟩ := ho8.slice; exact ⟨_, _, _, e⟩); have HJ8 : Hid (Own w8 w7.heap.size (.slice ja jn jc) TB ∧ Below w7.heap.size w7 w8) := ⟨ho8, HBE.out.trans hb8⟩; have hrb : Row w8 (some ⟨ab, aoff, none⟩) 60 bs := HRB.out.later (HB7.out.trans (HJ8.out.2.mono HB7.out.size)); have hLB : TB.length + 60 ≤ 140737488355328 := (by have := HTL.out.2; omega); clear ho8 hb8) | (at_builtin; refine wp_append_row rfl _ _ rfl w7.heap.size _ TB rfl HJ8.out.1 _ _ _ bs rfl hrb hzz hLB HJ8.out.2.size ?_; intro v9 w9 ho9 hb9; obtain ⟨ka, kn, kc, rfl⟩ : ∃ a n c, v9 = .slice a n c := (by obtain ⟨a, n, c, e, -⟩ := ho9.slice; exact ⟨_, _, _, e⟩); have HK9 : Hid (Own w9 w7.heap.size (.slice ka kn kc) (TB ++ bs) ∧ Below w7.heap.size w7 w9) := ⟨ho9, HJ8.out.2.trans hb9⟩; clear ho9 hb9 hrb hLB))
      have hkl : kn ≤ 1000000 := by have h1 := (row_of_own HK9.out.1).1.1; have h2 := HRB.out.1; have h3 := HTL.out.2; rw [List.length_append] at h1; omega
      have hcall := new_any ka kn kc (TB ++ bs) w9 (row_of_own HK9.out.1).1 (row_of_own HK9.out.1).2 hkl
      refine hcall.mono ?_
      clear hcall hkl
      rintro e w10 ⟨g, rfl, hrd, hgs, hb10⟩
      have HG : Hid (w9.heap.size ≤ g) := hgs
      have HB10 : Hid (Below w9.heap.size w9 w10) := hb10
      rw [HTB.out] at hrd
      have hcall := readTxn_put g (t1, t2) plain l1 l2 bs w10 hrd HRT.out.symm HFI.out HFA.out.1 HFA.out.2.1 HFA.out.2.2.1 HT2.out HFA.out.2.2.2.1 HFA.out.2.2.2.2.1 HFA.out.2.2.2.2.2.1 HFA.out.2.2.2.2.2.2
      clear hgs hb10 hrd
      go_wp2_with fail
      refine hcall.mono ?_
      clear hcall
      rintro e w11 ⟨⟨ea, en, ec, fa, fn, fc, rfl, ho1, ho2⟩, hrd, hoy⟩
      have hb11 : Below w7.heap.size w7 w11 := HK9.out.2.trans ((HB10.out.trans (hoy.below HG.out HB10.out.size)).mono HK9.out.2.size)
      have hb12 : Below w11.heap.size w11 (w11.alloc (.cells #[.int .i64 t1, .int .u64 t2, .bool plain, .slice ea en ec, .slice fa fn fc] 35)) := (Below.refl _ _).alloc (Nat.le_refl _) _
      have hn12 := heap_alloc_new w11 (.cells #[.int .i64 t1, .int .u64 t2, .bool plain, .slice ea en ec, .slice fa fn fc] 35)
      go_upto_region 12 with fail
      generalize w11.alloc (.cells #[.int .i64 t1, .int .u64 t2, .bool plain, .slice ea en ec, .slice fa fn fc] 35) = w12 at *
      have hb712 : Below w7.heap.size w7 w12 := hb11.trans (hb12.mono hb11.size)
      have HB12 : Hid (Below w.heap.size w w12) := HB7.out.trans (hb712.mono HB7.out.size)
      have HTX12 : Hid (Tx w12 w0.heap.size xa xn xc ya yn yc l1 l2) := HTX7.out.later hb712
      have HTY12 : Hid (Ty w12 w2.heap.size za zn zc qa qn qc l1 l2) := HTY7.out.later hb712
      have HX12 : Hid (w12.heap[px]? = some (.cells #[.int .i64 t1, .int .u64 t2, .bool plain, .slice xa xn xc, .slice ya yn yc] 35)) := keepc hb712 HX7.out
      have HW12 : Hid (w12.heap[pw]? = some (.cells #[.int .i64 t1, .int .u64 t2, .bool plain, .slice za zn zc, .slice qa qn qc] 28)) := keepc hb712 HW7.out
      clear HB7 HTX7 HTY7 HX7 HW7
      have HER : Hid (w12.ownsRow w10.heap.size 79 2 (.slice ea en ec) l1.length (l1.flatMap Rdv.cells) ∧ w12.ownsRow w10.heap.size 80 3 (.slice fa fn fc) l2.length (l2.flatMap Wrv.cells)) := ⟨owns_later ho1 hb12, owns_later ho2 hb12⟩
      have HRD : Hid (Rd w12 g (some bs)) := hrd.later hb12
      obtain ⟨x0, x1, x2, x3, x4⟩ := five_cells hn12
      obtain ⟨y0, y1, y2, y3, y4⟩ := five_cells HW12.out
      generalize w11.heap.size = p9 at *
      clear ho1 ho2 hrd hoy hb11 hb12 hn12 hb712 HK9 HB10
      have HS : Hid (∀ w', Below w12.heap.size w12 w' → Below w12.heap.size w12 w' ∧ Rd w' g (some bs) ∧ w'.cell? ⟨p9, 0, none⟩ = some (.int .i64 t1) ∧ w'.cell? ⟨p9, 1, none⟩ = some (.int .u64 t2) ∧ w'.cell? ⟨p9, 2, none⟩ = some (.bool plain) ∧ w'.cell? ⟨p9, 3, none⟩ = some (.slice ea en ec) ∧ w'.cell? ⟨p9, 4, none⟩ = some (.slice fa fn fc) ∧ w'.cell? ⟨pw, 0, none⟩ = some (.int .i64 t1) ∧ w'.cell? ⟨pw, 1, none⟩ = some (.int .u64 t2) ∧ w'.cell? ⟨pw, 2, none⟩ = some (.bool plain) ∧ w'.cell? ⟨pw, 3, none⟩ = some (.slice za zn zc) ∧ w'.cell? ⟨pw, 4, none⟩ = some (.slice qa qn qc)) := fun w' hb => ⟨hb, HRD.out.later hb, cell_later hb x0, cell_later hb x1, cell_later hb x2, cell_later hb x3, cell_later hb x4, cell_later hb y0, cell_later hb y1, cell_later hb y2, cell_later hb y3, cell_later hb y4⟩
      clear x0 x1 x2 x3 x4 y0 y1 y2 y3 y4
      have hu0 : Below w12.heap.size w12 w12.drew := (Below.refl _ _).drew
      refine wp_region_noPanic ?_
      refine wp_region_held_drew (S := (fun w' => Below w12.heap.size w12 w' ∧ Rd w' g (some bs) ∧ w'.cell? ⟨p9, 0, none⟩ = some (.int .i64 t1) ∧ w'.cell? ⟨p9, 1, none⟩ = some (.int .u64 t2) ∧ w'.cell? ⟨p9, 2, none⟩ = some (.bool plain) ∧ w'.cell? ⟨p9, 3, none⟩ = some (.slice ea en ec) ∧ w'.cell? ⟨p9, 4, none⟩ = some (.slice fa fn fc) ∧ w'.cell? ⟨pw, 0, none⟩ = some (.int .i64 t1) ∧ w'.cell? ⟨pw, 1, none⟩ = some (.int .u64 t2) ∧ w'.cell? ⟨pw, 2, none⟩ = some (.bool plain) ∧ w'.cell? ⟨pw, 3, none⟩ = some (.slice za zn zc) ∧ w'.cell? ⟨pw, 4, none⟩ = some (.slice qa qn qc))) (by kernel_rfl) ?_ (fun hHeld => ?_)
      · exact HS.out _ hu0
      refine held_take (i := 0) (d := 46) (v := ?_) rfl rfl (by kernel_rfl) (by kernel_rfl) (by kernel_rfl) (fun _ _ _ h => h) (Or.inl ⟨by rfl, ?_⟩) hHeld ?_
      rotate_left
      · (intro w hSw; (try dsimp only at hSw); go_simp; all_goals (with_reducible rfl))
      try simp only [Act.put, List.setIfInBounds_toArray, List.set_cons_zero, List.set_cons_succ]
      refine held_take (i := 1) (d := 47) (v := ?_) rfl rfl (by kernel_rfl) (by kernel_rfl) (by kernel_rfl) (fun _ _ _ h => h) (Or.inl ⟨by rfl, ?_⟩) hHeld ?_
      rotate_left
      · (intro w hSw; (try dsimp only at hSw); go_simp; all_goals (with_reducible rfl))
      try simp only [Act.put, List.setIfInBounds_toArray, List.set_cons_zero, List.set_cons_succ]
      refine held_take (i := 2) (d := 48) (v := ?_) rfl rfl (by kernel_rfl) (by kernel_rfl) (by kernel_rfl) (fun _ _ _ h => h) (Or.inl ⟨by rfl, ?_⟩) hHeld ?_
      rotate_left
      · (intro w hSw; (try dsimp only at hSw); go_simp; all_goals (with_reducible rfl))
      try simp only [Act.put, List.setIfInBounds_toArray, List.set_cons_zero, List.set_cons_succ]
      refine held_take (i := 4) (d := 50) (v := ?_) rfl rfl (by kernel_rfl) (by kernel_rfl) (by kernel_rfl) (fun _ _ _ h => h) (Or.inl ⟨by rfl, ?_⟩) hHeld ?_
      rotate_left
      · (intro w hSw; (try dsimp only at hSw); go_simp; all_goals (with_reducible rfl))
      try simp only [Act.put, List.setIfInBounds_toArray, List.set_cons_zero, List.set_cons_succ]
      refine wpAnyH_ready (rs := [3]) (by kernel_rfl) (by simp) ?_
      refine AllReadyH.cons rfl (fun K hK => ?_) AllReadyH.nil
      go_simp
      have hq := plain_any (t1, t2) plain w10.heap.size (.slice ea en ec) (.slice fa fn fc) l1 l2 w12.drew (owns_later HER.out.1 hu0) (owns_later HER.out.2 hu0) HL1.out HL2.out
      refine hq.mono ?_
      clear hq
      rintro e u1 ⟨⟨v5, v6, rfl, ho5, ho6⟩, hx⟩
      obtain ⟨ia, im, ic, rfl⟩ := owns_slice ho5
      obtain ⟨ma, mn, mc, rfl⟩ := owns_slice ho6
      have hu1 : Below w12.heap.size w12 u1 := hu0.trans hx
      have HIY : Hid (Ty u1 w12.drew.heap.size ia im ic ma mn mc l1 l2) := ⟨ho5, ho6, HFI.out, HL1.out, HL2.out⟩
      clear hx ho5 ho6
      go_wp2_with fail
      refine hK.out _ _ ?_ (fun hHeld => ?_)
      · exact HS.out _ hu1
      clear hK K
      try simp only [Act.put, List.setIfInBounds_toArray, List.set_cons_zero, List.set_cons_succ]
      refine wpAnyH_ready (rs := [5]) (by kernel_rfl) (by simp) ?_
      refine AllReadyH.cons rfl (fun K hK => ?_) AllReadyH.nil
      go_simp
      have hq := rsame_let (t1, t2) plain w12.drew.heap.size w2.heap.size ia za im zn ic zc ma qa mn qn mc qc l1 l2 u1 HIY.out (HTY12.out.later hu1)
      refine hq.mono ?_
      clear hq
      rintro e u2 ⟨rfl, hx⟩
      have hu2 : Below w12.heap.size w12 u2 := hu1.trans (hx.mono hu1.size)
      clear hx
      go_wp2_with fail
      refine hK.out _ _ ?_ (fun hHeld => ?_)
      · exact HS.out _ hu2
      clear hK K
      try simp only [Act.put, List.setIfInBounds_toArray, List.set_cons_zero, List.set_cons_succ]
      refine held_take (i := 6) (d := 52) (v := ?_) rfl rfl (by kernel_rfl) (by kernel_rfl) (by kernel_rfl) (fun _ _ _ h => h) (Or.inl ⟨by rfl, ?_⟩) hHeld ?_
      rotate_left
      · (intro w hSw; (try dsimp only at hSw); go_simp; all_goals (with_reducible rfl))
      try simp only [Act.put, List.setIfInBounds_toArray, List.set_cons_zero, List.set_cons_succ]
      refine held_take (i := 7) (d := 53) (v := ?_) rfl rfl (by kernel_rfl) (by kernel_rfl) (by kernel_rfl) (fun _ _ _ h => h) (Or.inl ⟨by rfl, ?_⟩) hHeld ?_
      rotate_left
      · (intro w hSw; (try dsimp only at hSw); go_simp; all_goals (with_reducible rfl))
      try simp only [Act.put, List.setIfInBounds_toArray, List.set_cons_zero, List.set_cons_succ]
      refine held_take (i := 8) (d := 54) (v := ?_) rfl rfl (by kernel_rfl) (by kernel_rfl) (by kernel_rfl) (fun _ _ _ h => h) (Or.inl ⟨by rfl, ?_⟩) hHeld ?_
      rotate_left
      · (intro w hSw; (try dsimp only at hSw); go_simp; all_goals (with_reducible rfl))
      try simp only [Act.put, List.setIfInBounds_toArray, List.set_cons_zero, List.set_cons_succ]
      refine held_take (i := 10) (d := 56) (v := ?_) rfl rfl (by kernel_rfl) (by kernel_rfl) (by kernel_rfl) (fun _ _ _ h => h) (Or.inl ⟨by rfl, ?_⟩) hHeld ?_
      rotate_left
      · (intro w hSw; (try dsimp only at hSw); go_simp; all_goals (with_reducible rfl))
      try simp only [Act.put, List.setIfInBounds_toArray, List.set_cons_zero, List.set_cons_succ]
      refine held_take (i := 11) (d := 57) (v := ?_) rfl rfl (by kernel_rfl) (by kernel_rfl) (by kernel_rfl) (fun _ _ _ h => h) (Or.inl ⟨by rfl, ?_⟩) hHeld ?_
      rotate_left
      · (intro w hSw; (try dsimp only at hSw); go_simp; all_goals (with_reducible rfl))
      try simp only [Act.put, List.setIfInBounds_toArray, List.set_cons_zero, List.set_cons_succ]
      refine wpAnyH_ready (rs := [9]) (by kernel_rfl) (by simp) ?_
      refine AllReadyH.cons rfl (fun K hK => ?_) AllReadyH.nil
      go_simp
      refine (left_any g _ _ hHeld.2.1).mono ?_
      rintro e u3 ⟨rfl, hw⟩
      subst u3
      rw [show ((some bs : Option (List Nat)).getD []).length = 60 from HRB.out.1]
      go_wp2_with fail
      refine hK.out _ _ ?_ (fun hHeld => ?_)
      · exact HS.out _ hu2
      clear hK K
      try simp only [Act.put, List.setIfInBounds_toArray, List.set_cons_zero, List.set_cons_succ]
      refine held_take (i := 12) (d := 58) (v := ?_) rfl rfl (by kernel_rfl) (by kernel_rfl) (by kernel_rfl) (fun _ _ _ h => h) (Or.inl ⟨by rfl, ?_⟩) hHeld ?_
      rotate_left
      · (intro w hSw; (try dsimp only at hSw); go_simp; all_goals (with_reducible rfl))
      try simp only [Act.put, List.setIfInBounds_toArray, List.set_cons_zero, List.set_cons_succ]
      refine held_take (i := 13) (d := 59) (v := ?_) rfl rfl (by kernel_rfl) (by kernel_rfl) (by kernel_rfl) (fun _ _ _ h => h) (Or.inl ⟨by rfl, ?_⟩) hHeld ?_
      rotate_left
      · (intro w hSw; (try dsimp only at hSw); go_simp; all_goals (with_reducible rfl))
      try simp only [Act.put, List.setIfInBounds_toArray, List.set_cons_zero, List.set_cons_succ]
      refine held_take (i := 14) (d := 60) (v := ?_) rfl rfl (by kernel_rfl) (by kernel_rfl) (by kernel_rfl) (fun _ _ _ h => h) (Or.inl ⟨by rfl, ?_⟩) hHeld ?_
      rotate_left
      · (intro w hSw; (try dsimp only at hSw); go_simp; all_goals (with_reducible rfl))
      try simp only [Act.put, List.setIfInBounds_toArray, List.set_cons_zero, List.set_cons_succ]
      refine wpAnyH_ready (rs := [15]) (by kernel_rfl) (by simp) ?_
      refine AllReadyH.cons rfl (fun K hK => ?_) AllReadyH.nil
      go_simp
      have hq := awake12_any u2
      refine hq.mono ?_
      clear hq
      rintro e u4 ⟨rfl, hx⟩
      have hu4 : Below w12.heap.size w12 u4 := hu2.trans (hx.mono hu2.size)
      clear hx
      go_wp2_with fail
      refine hK.out _ _ ?_ (fun hHeld => ?_)
      · exact HS.out _ hu4
      clear hK K
      try simp only [Act.put, List.setIfInBounds_toArray, List.set_cons_zero, List.set_cons_succ]
      refine held_take (i := 16) (d := 62) (v := ?_) rfl rfl (by kernel_rfl) (by kernel_rfl) (by kernel_rfl) (fun _ _ _ h => h) (Or.inl ⟨by rfl, ?_⟩) hHeld ?_
      rotate_left
      · (intro w hSw; (try dsimp only at hSw); go_simp; all_goals (with_reducible rfl))
      try simp only [Act.put, List.setIfInBounds_toArray, List.set_cons_zero, List.set_cons_succ]
      refine held_take (i := 17) (d := 4) (v := ?_) rfl rfl (by kernel_rfl) (by kernel_rfl) (by kernel_rfl) (fun _ _ _ h => h) (Or.inl ⟨by rfl, ?_⟩) hHeld ?_
      rotate_left
      · (intro w hSw; (try dsimp only at hSw); go_simp; all_goals (with_reducible rfl))
      try simp only [Act.put, List.setIfInBounds_toArray, List.set_cons_zero, List.set_cons_succ]
      refine wpAnyH_done (by kernel_rfl) ?_ _
      refine NoPanic.normal ?_
      clear hHeld HS
      have HF : Hid (Below w.heap.size w u4) := HB12.out.trans (hu4.mono HB12.out.size)
      go_wp2
      go_ret
      exact ⟨rfl, HF.out⟩

/-! From the call to the statement. -/
set_option maxRecDepth 100000 in
theorem lifted (os : Os) (started : os.Started) (H : Type) (enc : TypeId × Value → H) :
    ReturnsInHanded {} Tryd.checked os 4 .any (fun w args => (Rows.entryTxnSpec.pre enc Tryd.prog Tryd.f4 [] false w args ∧ laidMetH Tryd.prog listed w) ∧ sizedMet enc Tryd.prog Tryd.f4 (OpenSpec.ofChange Rows.entryTxnSpec) false w args)
      (Rows.entryTxnSpec.post enc Tryd.prog Tryd.f4 false true false false) := by
  refine returnsInHanded_of_change_and (C := Tryd.checked) (X := fun w _ => laidMetH Tryd.prog listed w) (fun _ _ _ hh h => h.of_heap hh) Fa.own started (by kernel_rfl) Tryd.func4
    (ChangeSpec.witness_shaped (enc := enc) (C := Tryd.checked) (os := os) (X := fun w _ => laidMetH Tryd.prog listed w) false (World.doorLaid Tryd.prog 400 os) #[.agg #[.int .i64 0, .int .u64 0, .bool false, .slice none 0 0, .slice none 0 0], .slice none 0 0] 8 rfl (World.shaped_of_RefB (by kernel_rfl) (by kernel_rfl)) (by kernel_rfl) (by kernel_rfl) (by kernel_rfl) (door_met os _)) ?_
  intro W base args ds gs before hval0 hW _ _ hL _
  have hval : ∀ (j : Nat) t v, Tryd.f4.params[j]? = some t → args[j]? = some v → Value.okWide Tryd.prog W .any base t v := hval0
  have hW' := hW
  obtain ⟨p, q, hA0, hV, rfl, hfz, hnd⟩ := hW
  have hA : DataW.TrodAll enc Tryd.prog W 0 (fun _ => true) true Tryd.f4.params.toList args.toList ds p := hA0
  rw [Tryd.params4] at hA hval
  obtain ⟨v0, vs0, d0, ds0, p0, q0, hargs, rfl, rfl, h0, r0⟩ := trodAll_cons hA
  obtain ⟨v1, vs1, d1, ds1, p1, q1, rfl, rfl, rfl, h1, r1⟩ := trodAll_cons r0
  obtain ⟨rfl, rfl, rfl⟩ := trodAll_nil r1
  obtain rfl : args = #[v0, v1] := by cases args; simp_all
  obtain ⟨rfl, rfl⟩ := trodVars_none hV
  have k0 := h0
  have lt0 : ∀ x ∈ p0, x.block < W.heap.size := by obtain ⟨m, hm⟩ := k0; exact DataW.trod_lt m _ _ _ hm
  obtain ⟨i0, rfl, w0⟩ := open_txiN (hval 0 28 v0 rfl rfl) h0
  obtain ⟨a1, len1, cap1, rfl⟩ := okWide_slice Tryd.underlying46 (hval 1 46 v1 rfl rfl)
  have k1 := h1
  have lt1 : ∀ x ∈ p1, x.block < W.heap.size := by obtain ⟨m, hm⟩ := k1; exact DataW.trod_lt m _ _ _ hm
  obtain ⟨z1, w1⟩ : ∃ zs, IsRow .u8 W a1 len1 cap1 zs := by
    obtain ⟨fuel, hf⟩ := h1
    rcases open_ints Tryd.underlying46 Tryd.underlying5 (by kernel_rfl) hf with ⟨hcs, _⟩ | ⟨x, l, c, zs, hcs, _, hl, hm, hz, _, hcell, hwz⟩
    · simp [Value.cells] at hcs
      obtain ⟨rfl, rfl, rfl⟩ := hcs
      exact ⟨[], .inl ⟨rfl, rfl, rfl, rfl⟩⟩
    · simp [Value.cells] at hcs
      obtain ⟨rfl, rfl, rfl⟩ := hcs
      exact ⟨zs, .inr ⟨_, rfl, hl, hm, by simpa using hz, hcell, hwz⟩⟩
  clear hA0 hval0
  refine (walk i0 a1 len1 cap1 z1 W (G.of_laid hL) w0 w1).mono fun e W' ⟨he, bel⟩ => ?_
  subst he
  exact ⟨_, rfl, _, _, _, [], _, [], hW', trodAll_mk1 (shut_bool Tryd.underlying4 _), (trodAll_cons_mk (Below.trod laidOut (by kernel_rfl) (of_decide_eq_true (by kernel_rfl)) k0 bel lt0) (trodAll_cons_mk (Below.trod laidOut (by kernel_rfl) (of_decide_eq_true (by kernel_rfl)) k1 bel lt1) trodAll_mk0)), rfl, bel.frame _, fun h => by cases h⟩

theorem over : Rows.entryTxnRow.holds Tryd.pinned (OpenSpec.ofChange Rows.entryTxnSpec) :=
  OpenClaim.holds_of_wide 4 Tryd.f4 rfl rfl rfl rfl rfl rfl rfl ⟨rfl, rfl, rfl, rfl, rfl⟩ rfl rfl rfl rfl rfl (by kernel_rfl) Tryd.func4 (by kernel_rfl)
    (of_decide_eq_true (by kernel_rfl)) (by unfold Func.isWrapper; rw [if_neg (of_decide_eq_false (by kernel_rfl))]; exact ⟨rfl, rfl⟩)
    (fun os started H enc _ => lifted os started H enc)
end Go.Proofs.YteokhedljfakkaaDoor.entryTxn
namespace Go.Proofs.YteokhedljfakkaaDoor
open Go
set_option maxRecDepth 100000 in
theorem entryTxn_holds : Rows.EntryTxnCardSaid :=
  Claim7.holds_tied_plain_at .later [] [.handle] true (true, "ea097fe2469b743f1a729c095ad40ff6a90a1f5214a00ae1ffcd7e2b5f076a58") true
    entryTxn.over (fun _ h => by cases h) (by kernel_rfl) (fun _ h => by cases h) entryTxn_row_tie rfl ⟨rfl, rfl⟩ (by kernel_rfl) rfl
    (fun f fn hf hfn => by
      obtain rfl : f = 4 := Option.some.inj ((show Tryd.prog.funcNamed Rows.entryTxnRow.func = some 4 by kernel_rfl).symm.trans hf) |>.symm
      obtain rfl : fn = Tryd.f4 := (Option.some.inj (Tryd.func4.symm.trans hfn)).symm
      exact ⟨by kernel_rfl, fun j t ht => by
        rw [Tryd.params4] at ht
        match j, ht with
        | 0, ht =>
          obtain rfl : t = 28 := by simpa using ht.symm
          exact (show Tryd.prog.wantsStandIn 28 = false by kernel_rfl)
        | 1, ht =>
          obtain rfl : t = 46 := by simpa using ht.symm
          exact (show Tryd.prog.wantsStandIn 46 = false by kernel_rfl)
        | j + 2, ht => simp at ht⟩)
    (by kernel_rfl)
#print axioms entryTxn_holds
end Go.Proofs.YteokhedljfakkaaDoor
