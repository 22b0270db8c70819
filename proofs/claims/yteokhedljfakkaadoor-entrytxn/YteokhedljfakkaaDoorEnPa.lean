/- A transaction's bytes: the document's PutTxn. -/
import Derived.Test.YteokhedljfakkaaDoorEnZ
namespace Go.Proofs.YteokhedljfakkaaDoor
open Go Go.RowKit
set_option linter.unusedVariables false
set_option linter.unusedSimpArgs false

set_option maxRecDepth 100000 in
set_option maxHeartbeats 16000000 in
theorem putTxn_any (id : Id) (plain : Bool) (b1 : Nat) (a1 : Option Addr) (n1 c1 : Nat) (a2 : Option Addr) (n2 c2 : Nat) (l1 : List Rdv) (l2 : List Wrv) (w : World) (h : Ty w b1 a1 n1 c1 a2 n2 c2 l1 l2) (hw : Wri id l1 l2) :
    Calls Tryd.prog 18 #[txnv id plain (.slice a1 n1 c1) (.slice a2 n2 c2)] w fun e w' => (∃ a n c, e = .returned (.slice a n c) ∧ Own w' w.heap.size (.slice a n c) (txnB id plain l1 l2)) ∧ Below w.heap.size w w' := by
  obtain ⟨i1, i2⟩ := id
  obtain ⟨aa, cc, e1, hR⟩ := owns_rds h.r ⟨⟨#[]⟩, 0⟩
  simp only [Value.slice.injEq] at e1
  obtain ⟨rfl, e2, rfl⟩ := e1
  obtain ⟨aa, cc, e1, hW⟩ := owns_wrs h.w ⟨⟨#[]⟩, ⟨#[]⟩, false⟩
  simp only [Value.slice.injEq] at e1
  obtain ⟨rfl, e3, rfl⟩ := e1
  rw [← e2] at hR
  rw [← e3] at hW
  have HN1 : Hid (n1 = l1.length) := e2
  have HN2 : Hid (n2 = l2.length) := e3
  have hn10 : n1 ≤ 10 := by rw [e2]; exact hw.n1
  have hn20 : n2 ≤ 10 := by rw [e3]; exact hw.n2
  have HWR : Hid (Wri (i1, i2) l1 l2) := hw
  obtain ⟨q0, q1, q2, q3, -, -, -, -⟩ := hw
  simp only at q0 q1 q2 q3
  clear h e2 e3
  have hb0 : Below w.heap.size w (w.alloc (.cells #[.int .i64 i1, .int .u64 i2, .bool plain, .slice a1 n1 c1, .slice a2 n2 c2] 28)) := (Below.refl _ _).alloc (Nat.le_refl _) _
  have hn0 := heap_alloc_new w (.cells #[.int .i64 i1, .int .u64 i2, .bool plain, .slice a1 n1 c1, .slice a2 n2 c2] 28)
  go_enter Tryd.func18, Tryd.ntmps18
  go_upto_region 1 with fail
  generalize w.alloc (.cells #[.int .i64 i1, .int .u64 i2, .bool plain, .slice a1 n1 c1, .slice a2 n2 c2] 28) = w0 at *
  have HR0 : Hid (Rds w0 a1 n1 (fun i => l1[i]?.getD ⟨⟨#[]⟩, 0⟩)) := hR.later hb0
  have HW0 : Hid (Wrs w0 a2 n2 (fun i => l2[i]?.getD ⟨⟨#[]⟩, ⟨#[]⟩, false⟩)) := hW.later hb0
  have HB0 : Hid (Below w.heap.size w w0) := hb0
  obtain ⟨x0, x1, x2, x3, x4⟩ := five_cells hn0
  have HS : Hid (∀ w', Below w0.heap.size w0 w' → w'.cell? ⟨w.heap.size, 0, none⟩ = some (.int .i64 i1) ∧ w'.cell? ⟨w.heap.size, 1, none⟩ = some (.int .u64 i2) ∧ w'.cell? ⟨w.heap.size, 2, none⟩ = some (.bool plain) ∧ w'.cell? ⟨w.heap.size, 3, none⟩ = some (.slice a1 n1 c1) ∧ w'.cell? ⟨w.heap.size, 4, none⟩ = some (.slice a2 n2 c2)) := fun w' hb => ⟨cell_later hb x0, cell_later hb x1, cell_later hb x2, cell_later hb x3, cell_later hb x4⟩
  clear x0 x1 x2 x3 x4 hb0 hn0 hR hW
  refine wp_region_held_drew (S := (fun w' => w'.cell? ⟨w.heap.size, 0, none⟩ = some (.int .i64 i1) ∧ w'.cell? ⟨w.heap.size, 1, none⟩ = some (.int .u64 i2) ∧ w'.cell? ⟨w.heap.size, 2, none⟩ = some (.bool plain) ∧ w'.cell? ⟨w.heap.size, 3, none⟩ = some (.slice a1 n1 c1) ∧ w'.cell? ⟨w.heap.size, 4, none⟩ = some (.slice a2 n2 c2))) (by kernel_rfl) ?_ (fun hHeld => ?_)
  · exact HS.out _ (Below.refl _ _).drew
  have hu0 : Below w0.heap.size w0 w0.drew := (Below.refl _ _).drew
  refine held_take (i := 0) (d := 8) (v := ?_) rfl rfl (by kernel_rfl) (by kernel_rfl) (by kernel_rfl) (fun _ _ _ h => h) (Or.inl ⟨by rfl, ?_⟩) hHeld ?_
  rotate_left
  · (intro w hSw; (try dsimp only at hSw); go_simp; all_goals (with_reducible rfl))
  try simp only [Act.put, List.setIfInBounds_toArray, List.set_cons_zero, List.set_cons_succ]
  refine held_take (i := 1) (d := 9) (v := ?_) rfl rfl (by kernel_rfl) (by kernel_rfl) (by kernel_rfl) (fun _ _ _ h => h) (Or.inl ⟨by rfl, ?_⟩) hHeld ?_
  rotate_left
  · (intro w hSw; (try dsimp only at hSw); go_simp; all_goals (with_reducible rfl))
  try simp only [Act.put, List.setIfInBounds_toArray, List.set_cons_zero, List.set_cons_succ]
  refine held_take (i := 3) (d := 11) (v := ?_) rfl rfl (by kernel_rfl) (by kernel_rfl) (by kernel_rfl) (fun _ _ _ h => h) (Or.inl ⟨by rfl, ?_⟩) hHeld ?_
  rotate_left
  · (intro w hSw; (try dsimp only at hSw); go_simp; all_goals (with_reducible rfl))
  try simp only [Act.put, List.setIfInBounds_toArray, List.set_cons_zero, List.set_cons_succ]
  refine held_take (i := 4) (d := 12) (v := ?_) rfl rfl (by kernel_rfl) (by kernel_rfl) (by kernel_rfl) (fun _ _ _ h => h) (Or.inl ⟨by rfl, ?_⟩) hHeld ?_
  rotate_left
  · (intro w hSw; (try dsimp only at hSw); go_simp; all_goals (with_reducible rfl))
  try simp only [Act.put, List.setIfInBounds_toArray, List.set_cons_zero, List.set_cons_succ]
  refine wpAnyH_ready (rs := [2]) (by kernel_rfl) (by simp) ?_
  refine AllReadyH.cons rfl (fun K hK => ?_) AllReadyH.nil
  go_simp
  have hq := ridB_any (i1, i2) w0.drew q0 q1 q2 q3
  refine hq.mono ?_
  clear hq
  rintro e u1 ⟨⟨ja, jn, jc, rfl, ho1⟩, hx⟩
  have hu1 : Below w0.heap.size w0 u1 := hu0.trans hx
  have HO1 : Hid (Own u1 w0.heap.size (.slice ja jn jc) (idB (i1, i2))) := ho1
  clear ho1 hx
  go_wp2_with fail
  refine hK.out _ _ ?_ (fun hHeld => ?_)
  · exact HS.out _ hu1
  clear hK K
  try simp only [Act.put, List.setIfInBounds_toArray, List.set_cons_zero, List.set_cons_succ]
  refine wpAnyH_ready (rs := [5]) (by kernel_rfl) (by simp) ?_
  refine AllReadyH.cons rfl (fun K hK => ?_) AllReadyH.nil
  go_simp
  have hq := rbit_any plain u1
  refine hq.mono ?_
  clear hq
  rintro e u2 ⟨⟨ka, kn, kc, rfl, ho2⟩, hx⟩
  have hu2 : Below w0.heap.size w0 u2 := hu1.trans (hx.mono hu1.size)
  have HO2 : Hid (Own u2 w0.heap.size (.slice ja jn jc) (idB (i1, i2))) := HO1.out.later hx
  have hr2 : Row u2 ka kn (Oct.put (bitN plain)) ∧ (ka = none → kc = 0) := by
    obtain ⟨a, n, c, e, hr, _, _, hz, _⟩ := ho2.slice
    simp only [Value.slice.injEq] at e
    obtain ⟨rfl, rfl, rfl⟩ := e
    exact ⟨hr, hz⟩
  clear ho2 hx HO1
  go_wp2_with fail
  refine hK.out _ _ ?_ (fun hHeld => ?_)
  · exact HS.out _ hu2
  clear hK K
  try simp only [Act.put, List.setIfInBounds_toArray, List.set_cons_zero, List.set_cons_succ]
  refine wpAnyH_ready (rs := [6]) (by kernel_rfl) (by simp) ?_
  refine AllReadyH.cons rfl (fun K hK => ?_) AllReadyH.nil
  refine step_append_row (by rfl) _ _ (by rfl) w0.heap.size _ (idB (i1, i2)) (by rfl) HO2.out ka kn kc (Oct.put (bitN plain)) (by rfl) hr2.1 hr2.2 (by have h1 := hr2.1.1; have h2 := idB_len (i1, i2); have h3 := put_len (bitN plain); omega) hu2.size ?_
  intro v9 w9 ho9 hb9
  obtain ⟨a9, n9, c9, rfl⟩ : ∃ a n c, v9 = .slice a n c := by obtain ⟨a, n, c, e, -⟩ := ho9.slice; exact ⟨_, _, _, e⟩
  have HA : Hid (Own w9 w0.heap.size (.slice a9 n9 c9) (idB (i1, i2) ++ Oct.put (bitN plain)) ∧ Below w0.heap.size w0 w9) := ⟨ho9, hu2.trans hb9⟩
  show K (Act.put _ (some 14) (.slice a9 n9 c9)) w9
  clear ho9 hb9
  refine hK.out _ _ ?_ (fun hHeld => ?_)
  · exact HS.out _ HA.out.2
  clear hK K
  try simp only [Act.put, List.setIfInBounds_toArray, List.set_cons_zero, List.set_cons_succ]
  refine held_take (i := 7) (d := 3) (v := ?_) rfl rfl (by kernel_rfl) (by kernel_rfl) (by kernel_rfl) (fun _ _ _ h => h) (Or.inl ⟨by rfl, ?_⟩) hHeld ?_
  rotate_left
  · (intro w hSw; (try dsimp only at hSw); go_simp; all_goals (with_reducible rfl))
  try simp only [Act.put, List.setIfInBounds_toArray, List.set_cons_zero, List.set_cons_succ]
  refine wpAnyH_done (by kernel_rfl) ?_ _
  clear hHeld hu0 hu1 hu2 hr2 HO2
  have HJ1 : Hid (Own w9 w0.heap.size (.slice a9 n9 c9) (idB (i1, i2) ++ Oct.put (bitN plain)) ∧ Below w0.heap.size w0 w9) := HA.out
  clear HA
  have h5 : (n1 : Int) % 256 = (n1 : Int) := by omega
  have hL1 : (idB (i1, i2) ++ Oct.put (bitN plain)).length + 1 ≤ 140737488355328 := by rw [List.length_append]; have h2 := idB_len (i1, i2); have h3 := put_len (bitN plain); omega
  have HO3 : Hid (Own (w9.alloc (.cells #[.int .u8 (n1 : Nat)] 5)) w0.heap.size (.slice a9 n9 c9) (idB (i1, i2) ++ Oct.put (bitN plain))) := HJ1.out.1.alloc _
  have HR3 : Hid (Row (w9.alloc (.cells #[.int .u8 (n1 : Nat)] 5)) (some ⟨w9.heap.size, 0, none⟩) 1 [n1]) := Row.one w9 n1 (by omega)
  have HB3 : Hid (Below w0.heap.size w0 (w9.alloc (.cells #[.int .u8 (n1 : Nat)] 5))) := HJ1.out.2.alloc HJ1.out.2.size _
  obtain ⟨x0, x1, x2, x3, x4⟩ := HS.out _ HJ1.out.2
  clear x0 x1 x2 x4
  go_upto_region 3 with (at_builtin; refine wp_append_row rfl _ _ rfl w0.heap.size _ _ rfl HO3.out _ _ _ _ rfl HR3.out (by simp) hL1 HB3.out.size ?_; intro v4 w4 ho4 hb4; obtain ⟨oa, on, oc, rfl⟩ : ∃ a n c, v4 = .slice a n c := (by obtain ⟨a, n, c, e, -⟩ := ho4.slice; exact ⟨_, _, _, e⟩); have HJ2 : Hid (Own w4 w0.heap.size (.slice oa on oc) (txnH (i1, i2) plain n1) ∧ Below w0.heap.size w0 w4) := ⟨(by have e : txnH (i1, i2) plain n1 = idB (i1, i2) ++ Oct.put (bitN plain) ++ [n1] := (by unfold txnH; rw [put_small n1 (by omega)]); rw [e]; exact ho4), HB3.out.trans hb4⟩; clear ho4 hb4)
  clear HO3 HR3 HB3 HJ1 x3 hL1 h5
  obtain ⟨x0, x1, x2, x3, x4⟩ := HS.out _ HJ2.out.2
  clear x0 x1 x2 x4
  go_wp2
  clear x3
  generalize w4 = wA at *
  go_loopw [3, 25] (fun v t wr => ∃ (k : Nat) (va : Option Addr) (vn vc : Nat), t = .int .i64 (k : Nat) ∧ k ≤ n1 ∧ v = .slice va vn vc ∧ Hid (Own wr w0.heap.size (.slice va vn vc) (txnH (i1, i2) plain n1 ++ rdsB (l1.take k))) ∧ Hid (Below w0.heap.size w0 wr)) (fun _ t _ => n1 - (intOf t).toNat)
  case atStart => exact ⟨0, _, _, _, rfl, Nat.zero_le _, rfl, by simpa [Hid, rdsB] using HJ2.out.1, HJ2.out.2⟩
  case round =>
    clear HJ2
    obtain ⟨k, va, vn, vc, rfl, hk, rfl, HO, HB⟩ := hrel
    by_cases hlt : k < n1
    · obtain ⟨b, off, rfl, hc⟩ := (HR0.out.later HB.out).at (by omega)
      obtain ⟨d0, d1⟩ := hc k hlt
      clear hc
      have hkl : k < l1.length := by rw [← HN1.out]; exact hlt
      have hx : l1[k]? = some (l1[k]?.getD ⟨⟨#[]⟩, 0⟩) := by rw [List.getElem?_eq_getElem hkl]; rfl
      generalize l1[k]?.getD ⟨⟨#[]⟩, 0⟩ = x at d0 d1 hx
      have hxs := HWR.out.r x (List.mem_of_getElem? hx)
      have HEQ : Hid (rdsB (l1.take (k + 1)) = rdsB (l1.take k) ++ rdB x) := by
        obtain ⟨hk2, e⟩ := List.getElem?_eq_some_iff.1 hx
        rw [Hid, List.take_succ_eq_append_getElem hk2, rdsB_snoc, e]
      have hll : (txnH (i1, i2) plain n1 ++ rdsB (l1.take k)).length ≤ 20000 := by
        have h1 := rdsB_len (l1.take k) (fun y hy => (HWR.out.r y (List.mem_of_mem_take hy)).1)
        have h2 := txnH_len (i1, i2) plain n1
        have h3 : (l1.take k).length ≤ 10 := by rw [List.length_take]; omega
        rw [List.length_append]; omega
      obtain ⟨xk, xm⟩ := x
      simp only at d0 d1 hxs
      obtain ⟨xn, rfl⟩ : ∃ xn : Nat, xm = (xn : Int) := ⟨xm.toNat, by omega⟩
      have HRB : Hid (rdB ⟨xk, (xn : Int)⟩ = textB xk ++ Oct.put xn) := by simp [Hid, rdB]
      obtain ⟨hxk, -, hxn⟩ := hxs
      have hb1 : Below wr.heap.size wr (wr.alloc (.cells #[.string xk, .int .u64 (xn : Nat)] 66)) := (Below.refl _ _).alloc (Nat.le_refl _) _
      have hg1 := heap_alloc_new wr (.cells #[.string xk, .int .u64 (xn : Nat)] 66)
      clear hx hkl
      go_upto_region 6 with fail
      generalize wr.alloc (.cells #[.string xk, .int .u64 (xn : Nat)] 66) = w1 at *
      have HO1 : Hid (Own w1 w0.heap.size (.slice va vn vc) (txnH (i1, i2) plain n1 ++ rdsB (l1.take k))) := HO.out.later hb1
      have HB1 : Hid (Below w0.heap.size w0 w1) := HB.out.trans (hb1.mono HB.out.size)
      have HG1 : Hid (w1.heap[wr.heap.size]? = some (.cells #[.string xk, .int .u64 (xn : Nat)] 66)) := hg1
      clear hb1 hg1 HO HB d0 d1
      obtain ⟨LL, hLL⟩ : ∃ LL, LL = txnH (i1, i2) plain n1 ++ rdsB (l1.take k) := ⟨_, rfl⟩
      have HLE : Hid (LL = txnH (i1, i2) plain n1 ++ rdsB (l1.take k)) := hLL
      rw [← hLL] at HO1 hll
      clear hLL
      generalize wr.heap.size = p1 at *
      have z0 : w1.cell? ⟨p1, 0, none⟩ = some (.string xk) := cell_of_heap HG1.out rfl
      have hcall := rtxt_any xk w1 hxk
      go_wp2_with fail
      refine hcall.mono ?_
      clear hcall z0
      rintro e w2 ⟨⟨ja, jn, jc, rfl, hjr⟩, hb2⟩
      have HO2 : Hid (Own w2 w0.heap.size (.slice va vn vc) LL) := HO1.out.later hb2
      have HB2 : Hid (Below w0.heap.size w0 w2) := HB1.out.trans (hb2.mono HB1.out.size)
      have HG2 : Hid (w2.heap[p1]? = some (.cells #[.string xk, .int .u64 (xn : Nat)] 66)) := keepc hb2 HG1.out
      have HJR : Hid (Row w2 ja jn (textB xk) ∧ (ja = none → jc = 0)) := hjr
      have hL : LL.length + jn ≤ 140737488355328 := by have h1 := hjr.1.1; have h2 := textB_len xk hxk; omega
      clear hjr hb2 HO1 HB1 HG1
      go_upto_region 7 with (at_builtin; refine wp_append_fr rfl _ _ rfl w0.heap.size _ LL rfl HO2.out ja jn jc (textB xk) rfl HJR.out.1 HJR.out.2 hL HB2.out.size ?_; intro v3 w3 ho3 hf3; obtain ⟨ka, kn, kc, rfl⟩ : ∃ a n c, v3 = .slice a n c := (by obtain ⟨a, n, c, e, -⟩ := ho3.slice; exact ⟨_, _, _, e⟩); have HF3 : Hid (Own w3 w0.heap.size (.slice ka kn kc) (LL ++ textB xk) ∧ Below w0.heap.size w0 w3 ∧ w3.heap[p1]? = some (.cells #[.string xk, .int .u64 (xn : Nat)] 66)) := ⟨ho3, HB2.out.trans (hf3.below HB2.out.size), hf3.cells HG2.out (by decide)⟩; clear ho3 hf3)
      clear HO2 HB2 HG2 HJR hL
      have z1 : w3.cell? ⟨p1, 1, none⟩ = some (.int .u64 (xn : Nat)) := cell_of_heap HF3.out.2.2 rfl
      have hcall := rput_any xn w3 (by omega)
      go_wp2_with fail
      refine hcall.mono ?_
      clear hcall z1
      rintro e w4 ⟨⟨ja, jn, jc, rfl, hjr⟩, hb4⟩
      have HO4 : Hid (Own w4 w0.heap.size (.slice ka kn kc) (LL ++ textB xk)) := HF3.out.1.later hb4
      have HB4 : Hid (Below w0.heap.size w0 w4) := HF3.out.2.1.trans (hb4.mono HF3.out.2.1.size)
      have HJR : Hid (Row w4 ja jn (Oct.put xn) ∧ (ja = none → jc = 0)) := row_of_own hjr
      have hL : (LL ++ textB xk).length + jn ≤ 140737488355328 := by have h1 := HJR.out.1.1; have h2 := textB_len xk hxk; have h3 := put_len xn; rw [List.length_append]; omega
      clear hjr hb4 HF3
      go_wp2_with (at_builtin; refine wp_append_row rfl _ _ rfl w0.heap.size _ (LL ++ textB xk) rfl HO4.out ja jn jc (Oct.put xn) rfl HJR.out.1 HJR.out.2 hL HB4.out.size ?_; intro v5 w5 ho5 hb5; obtain ⟨ma, mn, mc, rfl⟩ : ∃ a n c, v5 = .slice a n c := (by obtain ⟨a, n, c, e, -⟩ := ho5.slice; exact ⟨_, _, _, e⟩); have HF5 : Hid (Own w5 w0.heap.size (.slice ma mn mc) (LL ++ textB xk ++ Oct.put xn) ∧ Below w0.heap.size w0 w5) := ⟨ho5, HB4.out.trans hb5⟩; clear ho5 hb5)
      go_roundw
      case rel => exact ⟨k + 1, _, _, _, by go_num, by omega, rfl, by have h9 := HF5.out.1; rw [HLE.out] at h9; rw [Hid, HEQ.out, HRB.out]; simpa using h9, HF5.out.2⟩
      case measure => simp [intOf]; omega
    · have hkk : l1.take k = l1 := List.take_of_length_le (by rw [← HN1.out]; omega)
      rw [hkk] at HO
      clear hkk
      have hL0 : (txnH (i1, i2) plain n1 ++ rdsB l1).length ≤ 20000 := by
        have h1 := rdsB_len l1 (fun y hy => (HWR.out.r y hy).1)
        have h2 := txnH_len (i1, i2) plain n1
        have h3 := HWR.out.n1
        rw [List.length_append]; omega
      obtain ⟨HD, hHD⟩ : ∃ HD, HD = txnH (i1, i2) plain n1 ++ rdsB l1 := ⟨_, rfl⟩
      have HDE : Hid (HD = txnH (i1, i2) plain n1 ++ rdsB l1) := hHD
      rw [← hHD] at HO hL0
      clear hHD
      have h5 : (n2 : Int) % 256 = (n2 : Int) := by omega
      have hL1 : HD.length + 1 ≤ 140737488355328 := by omega
      have HO3 : Hid (Own (wr.alloc (.cells #[.int .u8 (n2 : Nat)] 5)) w0.heap.size (.slice va vn vc) HD) := HO.out.alloc _
      have HR3 : Hid (Row (wr.alloc (.cells #[.int .u8 (n2 : Nat)] 5)) (some ⟨wr.heap.size, 0, none⟩) 1 [n2]) := Row.one wr n2 (by omega)
      have HB3 : Hid (Below w0.heap.size w0 (wr.alloc (.cells #[.int .u8 (n2 : Nat)] 5))) := HB.out.alloc HB.out.size _
      obtain ⟨x0, x1, x2, x3, x4⟩ := HS.out _ HB.out
      clear x0 x1 x2 x3
      go_upto_region 10 with (at_builtin; refine wp_append_row rfl _ _ rfl w0.heap.size _ _ rfl HO3.out _ _ _ _ rfl HR3.out (by simp) hL1 HB3.out.size ?_; intro v4 w4 ho4 hb4; obtain ⟨oa2, on2, oc2, rfl⟩ : ∃ a n c, v4 = .slice a n c := (by obtain ⟨a, n, c, e, -⟩ := ho4.slice; exact ⟨_, _, _, e⟩); have HJ3 : Hid (Own w4 w0.heap.size (.slice oa2 on2 oc2) (HD ++ Oct.put n2) ∧ Below w0.heap.size w0 w4) := ⟨(by rw [put_small n2 (by omega)]; exact ho4), HB3.out.trans hb4⟩; clear ho4 hb4)
      clear HO3 HR3 HB3 x4 hL1 h5 HO HB hL0
      obtain ⟨x0, x1, x2, x3, x4⟩ := HS.out _ HJ3.out.2
      clear x0 x1 x2 x3
      go_wp2
      clear x4
      generalize w4 = wC at *
      go_loopw [3, 50] (fun v t wr => ∃ (k : Nat) (va : Option Addr) (vn vc : Nat), t = .int .i64 (k : Nat) ∧ k ≤ n2 ∧ v = .slice va vn vc ∧ Hid (Own wr w0.heap.size (.slice va vn vc) (HD ++ Oct.put n2 ++ wrsB (l2.take k))) ∧ Hid (Below w0.heap.size w0 wr)) (fun _ t _ => n2 - (intOf t).toNat)
      case atStart => exact ⟨0, _, _, _, rfl, Nat.zero_le _, rfl, by simpa [Hid, wrsB] using HJ3.out.1, HJ3.out.2⟩
      case round =>
        clear HJ3
        obtain ⟨k, va, vn, vc, rfl, hk, rfl, HO, HB⟩ := hrel
        by_cases hlt : k < n2
        · obtain ⟨b, off, rfl, hc⟩ := (HW0.out.later HB.out).at (by omega)
          obtain ⟨d0, d1, d2⟩ := hc k hlt
          clear hc
          have hkl : k < l2.length := by rw [← HN2.out]; exact hlt
          have hx : l2[k]? = some (l2[k]?.getD ⟨⟨#[]⟩, ⟨#[]⟩, false⟩) := by rw [List.getElem?_eq_getElem hkl]; rfl
          generalize l2[k]?.getD ⟨⟨#[]⟩, ⟨#[]⟩, false⟩ = x at d0 d1 d2 hx
          have hxs := HWR.out.w x (List.mem_of_getElem? hx)
          have HEQ : Hid (wrsB (l2.take (k + 1)) = wrsB (l2.take k) ++ wrB x) := by
            obtain ⟨hk2, e⟩ := List.getElem?_eq_some_iff.1 hx
            rw [Hid, List.take_succ_eq_append_getElem hk2, wrsB_snoc, e]
          have hll : (HD ++ Oct.put n2 ++ wrsB (l2.take k)).length ≤ 50000 := by
            have h1 := rdsB_len l1 (fun y hy => (HWR.out.r y hy).1)
            have h2 := txnH_len (i1, i2) plain n1
            have h3 := HWR.out.n1
            have h4 := wrsB_len (l2.take k) (fun y hy => HWR.out.w y (List.mem_of_mem_take hy))
            have h5 : (l2.take k).length ≤ 10 := by rw [List.length_take]; omega
            have h6 := put_len n2
            rw [HDE.out]
            simp only [List.length_append]
            omega
          obtain ⟨xk, xv, xg⟩ := x
          simp only at d0 d1 d2 hxs
          have HRB : Hid (wrB ⟨xk, xv, xg⟩ = textB xk ++ textB xv ++ Oct.put (bitN xg)) := rfl
          obtain ⟨hxk, hxv⟩ := hxs
          have hb1 : Below wr.heap.size wr (wr.alloc (.cells #[.string xk, .string xv, .bool xg] 69)) := (Below.refl _ _).alloc (Nat.le_refl _) _
          have hg1 := heap_alloc_new wr (.cells #[.string xk, .string xv, .bool xg] 69)
          clear hx hkl
          go_upto_region 13 with fail
          generalize wr.alloc (.cells #[.string xk, .string xv, .bool xg] 69) = w1 at *
          have HO1 : Hid (Own w1 w0.heap.size (.slice va vn vc) (HD ++ Oct.put n2 ++ wrsB (l2.take k))) := HO.out.later hb1
          have HB1 : Hid (Below w0.heap.size w0 w1) := HB.out.trans (hb1.mono HB.out.size)
          have HG1 : Hid (w1.heap[wr.heap.size]? = some (.cells #[.string xk, .string xv, .bool xg] 69)) := hg1
          clear hb1 hg1 HO HB d0 d1 d2
          obtain ⟨LL, hLL⟩ : ∃ LL, LL = HD ++ Oct.put n2 ++ wrsB (l2.take k) := ⟨_, rfl⟩
          have HLE : Hid (LL = HD ++ Oct.put n2 ++ wrsB (l2.take k)) := hLL
          rw [← hLL] at HO1 hll
          clear hLL
          generalize wr.heap.size = p1 at *
          have z0 : w1.cell? ⟨p1, 0, none⟩ = some (.string xk) := cell_of_heap HG1.out rfl
          have hcall := rtxt_any xk w1 hxk
          go_wp2_with fail
          refine hcall.mono ?_
          clear hcall z0
          rintro e w2 ⟨⟨ja, jn, jc, rfl, hjr⟩, hb2⟩
          have HO2 : Hid (Own w2 w0.heap.size (.slice va vn vc) LL) := HO1.out.later hb2
          have HB2 : Hid (Below w0.heap.size w0 w2) := HB1.out.trans (hb2.mono HB1.out.size)
          have HG2 : Hid (w2.heap[p1]? = some (.cells #[.string xk, .string xv, .bool xg] 69)) := keepc hb2 HG1.out
          have HJR : Hid (Row w2 ja jn (textB xk) ∧ (ja = none → jc = 0)) := hjr
          have hL : LL.length + jn ≤ 140737488355328 := by have h1 := hjr.1.1; have h2 := textB_len xk hxk; omega
          clear hjr hb2 HO1 HB1 HG1
          go_upto_region 14 with (at_builtin; refine wp_append_fr rfl _ _ rfl w0.heap.size _ LL rfl HO2.out ja jn jc (textB xk) rfl HJR.out.1 HJR.out.2 hL HB2.out.size ?_; intro v3 w3 ho3 hf3; obtain ⟨ka, kn, kc, rfl⟩ : ∃ a n c, v3 = .slice a n c := (by obtain ⟨a, n, c, e, -⟩ := ho3.slice; exact ⟨_, _, _, e⟩); have HF3 : Hid (Own w3 w0.heap.size (.slice ka kn kc) (LL ++ textB xk) ∧ Below w0.heap.size w0 w3 ∧ w3.heap[p1]? = some (.cells #[.string xk, .string xv, .bool xg] 69)) := ⟨ho3, HB2.out.trans (hf3.below HB2.out.size), hf3.cells HG2.out (by decide)⟩; clear ho3 hf3)
          clear HO2 HB2 HG2 HJR hL
          have z1 : w3.cell? ⟨p1, 1, none⟩ = some (.string xv) := cell_of_heap HF3.out.2.2 rfl
          have hcall := rtxt_any xv w3 hxv
          go_wp2_with fail
          refine hcall.mono ?_
          clear hcall z1
          rintro e w4 ⟨⟨ja, jn, jc, rfl, hjr⟩, hb4⟩
          have HO4 : Hid (Own w4 w0.heap.size (.slice ka kn kc) (LL ++ textB xk)) := HF3.out.1.later hb4
          have HB4 : Hid (Below w0.heap.size w0 w4) := HF3.out.2.1.trans (hb4.mono HF3.out.2.1.size)
          have HG4 : Hid (w4.heap[p1]? = some (.cells #[.string xk, .string xv, .bool xg] 69)) := keepc hb4 HF3.out.2.2
          have HJR : Hid (Row w4 ja jn (textB xv) ∧ (ja = none → jc = 0)) := hjr
          have hL : (LL ++ textB xk).length + jn ≤ 140737488355328 := by have h1 := hjr.1.1; have h2 := textB_len xk hxk; have h3 := textB_len xv hxv; rw [List.length_append]; omega
          clear hjr hb4 HF3
          go_upto_region 15 with (at_builtin; refine wp_append_fr rfl _ _ rfl w0.heap.size _ (LL ++ textB xk) rfl HO4.out ja jn jc (textB xv) rfl HJR.out.1 HJR.out.2 hL HB4.out.size ?_; intro v5 w5 ho5 hf5; obtain ⟨ma, mn, mc, rfl⟩ : ∃ a n c, v5 = .slice a n c := (by obtain ⟨a, n, c, e, -⟩ := ho5.slice; exact ⟨_, _, _, e⟩); have HF5 : Hid (Own w5 w0.heap.size (.slice ma mn mc) (LL ++ textB xk ++ textB xv) ∧ Below w0.heap.size w0 w5 ∧ w5.heap[p1]? = some (.cells #[.string xk, .string xv, .bool xg] 69)) := ⟨ho5, HB4.out.trans (hf5.below HB4.out.size), hf5.cells HG4.out (by decide)⟩; clear ho5 hf5)
          clear HO4 HB4 HG4 HJR hL
          have z2 : w5.cell? ⟨p1, 2, none⟩ = some (.bool xg) := cell_of_heap HF5.out.2.2 rfl
          have hcall := rbit_any xg w5
          go_wp2_with fail
          refine hcall.mono ?_
          clear hcall z2
          rintro e w6 ⟨⟨ja, jn, jc, rfl, hjr⟩, hb6⟩
          have HO6 : Hid (Own w6 w0.heap.size (.slice ma mn mc) (LL ++ textB xk ++ textB xv)) := HF5.out.1.later hb6
          have HB6 : Hid (Below w0.heap.size w0 w6) := HF5.out.2.1.trans (hb6.mono HF5.out.2.1.size)
          have HJR : Hid (Row w6 ja jn (Oct.put (bitN xg)) ∧ (ja = none → jc = 0)) := row_of_own hjr
          have hL : (LL ++ textB xk ++ textB xv).length + jn ≤ 140737488355328 := by have h1 := HJR.out.1.1; have h2 := textB_len xk hxk; have h3 := textB_len xv hxv; have h4 := put_len (bitN xg); simp only [List.length_append]; omega
          clear hjr hb6 HF5
          go_wp2_with (at_builtin; refine wp_append_row rfl _ _ rfl w0.heap.size _ (LL ++ textB xk ++ textB xv) rfl HO6.out ja jn jc (Oct.put (bitN xg)) rfl HJR.out.1 HJR.out.2 hL HB6.out.size ?_; intro v7 w7 ho7 hb7; obtain ⟨ra, rn, rc, rfl⟩ : ∃ a n c, v7 = .slice a n c := (by obtain ⟨a, n, c, e, -⟩ := ho7.slice; exact ⟨_, _, _, e⟩); have HF7 : Hid (Own w7 w0.heap.size (.slice ra rn rc) (LL ++ textB xk ++ textB xv ++ Oct.put (bitN xg)) ∧ Below w0.heap.size w0 w7) := ⟨ho7, HB6.out.trans hb7⟩; clear ho7 hb7)
          go_roundw
          case rel => exact ⟨k + 1, _, _, _, by go_num, by omega, rfl, by have h9 := HF7.out.1; rw [HLE.out] at h9; rw [Hid, HEQ.out, HRB.out]; simpa using h9, HF7.out.2⟩
          case measure => simp [intOf]; omega
        · have hkk : l2.take k = l2 := List.take_of_length_le (by rw [← HN2.out]; omega)
          rw [hkk] at HO
          have HF : Hid (Own wr w.heap.size (.slice va vn vc) (txnB (i1, i2) plain l1 l2) ∧ Below w.heap.size w wr) := by
            have e1 : txnB (i1, i2) plain l1 l2 = HD ++ Oct.put n2 ++ wrsB l2 := by
              rw [HDE.out, HN2.out, HN1.out]; rfl
            rw [e1]
            exact ⟨HO.out.mono HB0.out.size, HB0.out.trans (HB.out.mono HB0.out.size)⟩
          clear hkk HO HB
          go_wp2
          go_ret
          exact ⟨⟨_, _, _, rfl, HF.out.1⟩, HF.out.2⟩
end Go.Proofs.YteokhedljfakkaaDoor
