/- Take of a table: a contract. -/
import Derived.Test.YtbhohedkgeokgaaLkH
namespace Go.Proofs.Ytbhohedkgeokgaa
open Go Go.RowKit
set_option linter.unusedVariables false
set_option linter.unusedSimpArgs false

/-- what Take has done -/
structure Taken (w' : World) (base g : Nat) (H F : List Spn) (last : Int) (id : Id) (a : Int) (rd wr : List ByteArray) : Prop where
  yes : takeE H last id a rd wr = 0 → ∃ rv wv, Tb w' base g (H ++ [⟨id, a, 0, rd, wr, rv, wv⟩]) F a
  no : takeE H last id a rd wr ≠ 0 → Tb w' base g H F last

set_option maxRecDepth 100000 in
set_option maxHeartbeats 8000000 in
theorem take_any (base g : Nat) (H F : List Spn) (last : Int) (id : Id) (a : Int) (rv wv : Value) (rd wr : List ByteArray) (w : World) (h : Tb w base g H F last) (k1 : SR w rv rd) (k2 : SR w wv wr) (hlen : H.length ≤ 1000) (hbase : base ≤ w.heap.size) :
    Calls Try.prog 18 #[.pointer (some ⟨g, 0, none⟩), idv id, .int .i64 a, rv, wv] w fun e w' => e = .returned (.int .i64 (takeE H last id a rd wr)) ∧ Taken w' base g H F last id a rd wr ∧ Fr base [54, 58] w w' := by
  obtain ⟨ra, rc, rfl, -⟩ := k1.slice
  obtain ⟨wa, wc, rfl, -⟩ := k2.slice
  have hb0 : Below w.heap.size w (w.alloc (.cells #[.int .i64 id.1, .int .u64 id.2] 31)) := (Below.refl _ _).alloc (Nat.le_refl _) _
  have hn := heap_alloc_new w (.cells #[.int .i64 id.1, .int .u64 id.2] 31)
  have HN : Hid ((w.alloc (.cells #[.int .i64 id.1, .int .u64 id.2] 31)).heap[w.heap.size]? = some (.cells #[.int .i64 id.1, .int .u64 id.2] 31)) := hn
  have HT : Hid (Tb (w.alloc (.cells #[.int .i64 id.1, .int .u64 id.2] 31)) base g H F last) := h.later hb0
  have HB : Hid (Below w.heap.size w (w.alloc (.cells #[.int .i64 id.1, .int .u64 id.2] 31))) := hb0
  have HR : Hid (SR (w.alloc (.cells #[.int .i64 id.1, .int .u64 id.2] 31)) (.slice ra rd.length rc) rd) := k1.later hb0
  have HW : Hid (SR (w.alloc (.cells #[.int .i64 id.1, .int .u64 id.2] 31)) (.slice wa wr.length wc) wr) := k2.later hb0
  obtain ⟨ha, hc, fa, fc, -, -, -, -, -, c2, -⟩ := HT.out.cells
  clear h hb0 hn k1 k2
  by_cases hal : a ≤ last
  · have HE : Hid (takeE H last id a rd wr = 1) := by rw [Hid, takeE, if_pos hal]
    go_enter Try.func18, Try.ntmps18
    go_wp2
    go_ret
    exact ⟨by rw [HE.out]; rfl, ⟨fun e => (by rw [HE.out] at e; cases e), fun _ => HT.out⟩, Fr.of HB.out⟩
  · have HAL : Hid (¬ a ≤ last) := hal
    have q1 := allRight_any _ rd _ HR.out
    go_enter Try.func18, Try.ntmps18
    go_wp2_with fail
    refine q1.mono ?_
    rintro e w1 ⟨rfl, hb1⟩
    have HN1 : Hid (w1.heap[w.heap.size]? = some (.cells #[.int .i64 id.1, .int .u64 id.2] 31)) := (hb1.block _ (Array.getElem?_eq_some_iff.1 HN.out).1).trans HN.out
    have HT1 : Hid (Tb w1 base g H F last) := HT.out.later hb1
    have HB1 : Hid (Below w.heap.size w w1) := HB.out.trans (hb1.mono HB.out.size)
    have HR1 : Hid (SR w1 (.slice ra rd.length rc) rd) := HR.out.later hb1
    have HW1 : Hid (SR w1 (.slice wa wr.length wc) wr) := HW.out.later hb1
    clear q1 hb1 HN HT HB HR HW c2 hal
    cases hr : allR rd
    · have HE : Hid (takeE H last id a rd wr = 1) := by rw [Hid, takeE, if_neg (show ¬ a ≤ last by have := HAL.out; omega), if_pos (by rw [hr]; rfl)]
      clear hr
      go_wp2
      go_ret
      exact ⟨by rw [HE.out]; rfl, ⟨fun e => (by rw [HE.out] at e; cases e), fun _ => HT1.out⟩, Fr.of HB1.out⟩
    have HRR : Hid (allR rd = true) := hr
    clear hr
    have q2 := allRight_any _ wr _ HW1.out
    go_wp2_with fail
    refine q2.mono ?_
    rintro e w2 ⟨rfl, hb1⟩
    have HN2 : Hid (w2.heap[w.heap.size]? = some (.cells #[.int .i64 id.1, .int .u64 id.2] 31)) := (hb1.block _ (Array.getElem?_eq_some_iff.1 HN1.out).1).trans HN1.out
    have HT2 : Hid (Tb w2 base g H F last) := HT1.out.later hb1
    have HB2 : Hid (Below w.heap.size w w2) := HB1.out.trans (hb1.mono HB1.out.size)
    have HR2 : Hid (SR w2 (.slice ra rd.length rc) rd) := HR1.out.later hb1
    have HW2 : Hid (SR w2 (.slice wa wr.length wc) wr) := HW1.out.later hb1
    clear q2 hb1 HN1 HT1 HB1 HR1 HW1
    cases hr : allR wr
    · have HE : Hid (takeE H last id a rd wr = 1) := by rw [Hid, takeE, if_neg (show ¬ a ≤ last by have := HAL.out; omega), if_pos (by rw [hr, Bool.and_false])]
      clear hr
      go_wp2
      go_ret
      exact ⟨by rw [HE.out]; rfl, ⟨fun e => (by rw [HE.out] at e; cases e), fun _ => HT2.out⟩, Fr.of HB2.out⟩
    have HE0 : Hid (takeE H last id a rd wr = if holdsS H id = true then 7 else if (rd.any (busyS H · false) || wr.any (busyS H · true)) = true then 11 else 0) := by
      rw [Hid, takeE, if_neg (show ¬ a ≤ last by have := HAL.out; omega), if_neg (by rw [hr, HRR.out]; simp)]
    clear hr HRR HAL
    have q3 := holds_any base g H F last id _ HT2.out hlen
    have p0 : w2.cell? ⟨w.heap.size, 0, none⟩ = some (.int .i64 id.1) := cell_of_heap HN2.out rfl
    have p1 : w2.cell? ⟨w.heap.size, 1, none⟩ = some (.int .u64 id.2) := cell_of_heap HN2.out rfl
    go_wp2_with fail
    refine q3.mono ?_
    rintro e w3 ⟨rfl, hb1⟩
    have HN3 : Hid (w3.heap[w.heap.size]? = some (.cells #[.int .i64 id.1, .int .u64 id.2] 31)) := (hb1.block _ (Array.getElem?_eq_some_iff.1 HN2.out).1).trans HN2.out
    have HT3 : Hid (Tb w3 base g H F last) := HT2.out.later hb1
    have HB3 : Hid (Below w.heap.size w w3) := HB2.out.trans (hb1.mono HB2.out.size)
    have HR3 : Hid (SR w3 (.slice ra rd.length rc) rd) := HR2.out.later hb1
    have HW3 : Hid (SR w3 (.slice wa wr.length wc) wr) := HW2.out.later hb1
    clear q3 hb1 HN2 HT2 HB2 HR2 HW2 p0 p1
    cases hr : holdsS H id
    rotate_left
    · have HE : Hid (takeE H last id a rd wr = 7) := by rw [Hid, HE0.out, if_pos hr]
      clear hr
      go_wp2
      go_ret
      exact ⟨by rw [HE.out]; rfl, ⟨fun e => (by rw [HE.out] at e; cases e), fun _ => HT3.out⟩, Fr.of HB3.out⟩
    rw [hr] at HE0
    simp only [Bool.false_eq_true, if_false] at HE0
    clear hr
    have q4 := anyBusy_any base g H F last false _ rd _ HR3.out HT3.out hlen
    go_wp2_with fail
    refine q4.mono ?_
    rintro e w4 ⟨rfl, hb1⟩
    have HN4 : Hid (w4.heap[w.heap.size]? = some (.cells #[.int .i64 id.1, .int .u64 id.2] 31)) := (hb1.block _ (Array.getElem?_eq_some_iff.1 HN3.out).1).trans HN3.out
    have HT4 : Hid (Tb w4 base g H F last) := HT3.out.later hb1
    have HB4 : Hid (Below w.heap.size w w4) := HB3.out.trans (hb1.mono HB3.out.size)
    have HR4 : Hid (SR w4 (.slice ra rd.length rc) rd) := HR3.out.later hb1
    have HW4 : Hid (SR w4 (.slice wa wr.length wc) wr) := HW3.out.later hb1
    clear q4 hb1 HN3 HT3 HB3 HR3 HW3
    have HE1 : Hid (takeE H last id a rd wr = if (rd.any (busyQ H false) || wr.any (busyQ H true)) = true then 11 else 0) := HE0
    clear HE0
    cases hr : rd.any (busyQ H false)
    rotate_left
    · have HE : Hid (takeE H last id a rd wr = 11) := by rw [Hid, HE1.out, if_pos (by rw [hr]; rfl)]
      clear hr
      go_wp2
      go_ret
      exact ⟨by rw [HE.out]; rfl, ⟨fun e => (by rw [HE.out] at e; cases e), fun _ => HT4.out⟩, Fr.of HB4.out⟩
    rw [hr, Bool.false_or] at HE1
    clear hr
    have q5 := anyBusy_any base g H F last true _ wr _ HW4.out HT4.out hlen
    go_wp2_with fail
    refine q5.mono ?_
    rintro e w5 ⟨rfl, hb1⟩
    have HN5 : Hid (w5.heap[w.heap.size]? = some (.cells #[.int .i64 id.1, .int .u64 id.2] 31)) := (hb1.block _ (Array.getElem?_eq_some_iff.1 HN4.out).1).trans HN4.out
    have HT5 : Hid (Tb w5 base g H F last) := HT4.out.later hb1
    have HB5 : Hid (Below w.heap.size w w5) := HB4.out.trans (hb1.mono HB4.out.size)
    have HR5 : Hid (SR w5 (.slice ra rd.length rc) rd) := HR4.out.later hb1
    have HW5 : Hid (SR w5 (.slice wa wr.length wc) wr) := HW4.out.later hb1
    clear q5 hb1 HN4 HT4 HB4 HR4 HW4
    cases hr : wr.any (busyQ H true)
    rotate_left
    · have HE : Hid (takeE H last id a rd wr = 11) := by rw [Hid, HE1.out, if_pos hr]
      clear hr
      go_wp2
      go_ret
      exact ⟨by rw [HE.out]; rfl, ⟨fun e => (by rw [HE.out] at e; cases e), fun _ => HT5.out⟩, Fr.of HB5.out⟩
    have HE : Hid (takeE H last id a rd wr = 0) := by rw [Hid, HE1.out, if_neg (by rw [hr]; simp)]
    clear hr HE1
    go_wp2_with fail
    obtain ⟨ha, hc, fa, fc, h1, h2, h3, c0, -, -, h4⟩ := HT5.out.cells
    have HLO : Hid (base ≤ g) := HT5.out.lo
    have HB5s : Hid (w.heap.size ≤ w5.heap.size) := HB5.out.size
    have p0 : w5.cell? ⟨w.heap.size, 0, none⟩ = some (.int .i64 id.1) := cell_of_heap HN5.out rfl
    have p1 : w5.cell? ⟨w.heap.size, 1, none⟩ = some (.int .u64 id.2) := cell_of_heap HN5.out rfl
    have HH : Hid (w5.heap[g]? = some (.cells #[.slice ha H.length hc, .slice fa F.length fc, .int .i64 last] 54 (0, 0)) ∧ SpO w5 base (.slice ha H.length hc) H ∧ SpO w5 base (.slice fa F.length fc) F ∧ (∀ k, (Value.slice ha H.length hc).ownBlock = some k → (Value.slice fa F.length fc).ownBlock ≠ some k)) := ⟨h1, h2, h3, h4⟩
    clear h1 h2 h3 h4 HT5
    refine wp_region_noPanic ?_
    refine wp_region_lets 16 (fun w' => w'.cell? ⟨g, 0, none⟩ = some (.slice ha H.length hc) ∧ w'.cell? ⟨w.heap.size, 0, none⟩ = some (.int .i64 id.1) ∧ w'.cell? ⟨w.heap.size, 1, none⟩ = some (.int .u64 id.2)) (by kernel_rfl) ?_ (fun hHeld => ?_)
    · exact ⟨c0, p0, p1⟩
    refine lets_take (i := 0) (d := 40) (v := ?_) rfl rfl (by kernel_rfl) (by kernel_rfl) (by kernel_rfl) (by kernel_rfl) (fun _ _ _ h => h) (Or.inl ⟨by rfl, ?_⟩) hHeld ?_
    rotate_left
    · (intro w hSw; (try dsimp only at hSw); go_simp; all_goals (with_reducible rfl))
    try simp only [Act.put, List.setIfInBounds_toArray, List.set_cons_zero, List.set_cons_succ]
    refine lets_take (i := 1) (d := 41) (v := ?_) rfl rfl (by kernel_rfl) (by kernel_rfl) (by kernel_rfl) (by kernel_rfl) (fun _ _ _ h => h) (Or.inl ⟨by rfl, ?_⟩) hHeld ?_
    rotate_left
    · (intro w hSw; (try dsimp only at hSw); go_simp; all_goals (with_reducible rfl))
    try simp only [Act.put, List.setIfInBounds_toArray, List.set_cons_zero, List.set_cons_succ]
    refine lets_take (i := 2) (d := 42) (v := ?_) rfl rfl (by kernel_rfl) (by kernel_rfl) (by kernel_rfl) (by kernel_rfl) (fun _ _ _ h => h) (Or.inl ⟨by rfl, ?_⟩) hHeld ?_
    rotate_left
    · (intro w hSw; (try dsimp only at hSw); go_simp; all_goals (with_reducible rfl))
    try simp only [Act.put, List.setIfInBounds_toArray, List.set_cons_zero, List.set_cons_succ]
    refine lets_take (i := 3) (d := 43) (v := ?_) rfl rfl (by kernel_rfl) (by kernel_rfl) (by kernel_rfl) (by kernel_rfl) (fun _ _ _ h => h) (Or.inl ⟨by rfl, ?_⟩) hHeld ?_
    rotate_left
    · (intro w hSw; (try dsimp only at hSw); go_simp; all_goals (with_reducible rfl))
    try simp only [Act.put, List.setIfInBounds_toArray, List.set_cons_zero, List.set_cons_succ]
    refine lets_take (i := 4) (d := 44) (v := ?_) rfl rfl (by kernel_rfl) (by kernel_rfl) (by kernel_rfl) (by kernel_rfl) (fun _ _ _ h => h) (Or.inl ⟨by rfl, ?_⟩) hHeld ?_
    rotate_left
    · (intro w hSw; (try dsimp only at hSw); go_simp; all_goals (with_reducible rfl))
    try simp only [Act.put, List.setIfInBounds_toArray, List.set_cons_zero, List.set_cons_succ]
    refine lets_take (i := 5) (d := 45) (v := ?_) rfl rfl (by kernel_rfl) (by kernel_rfl) (by kernel_rfl) (by kernel_rfl) (fun _ _ _ h => h) (Or.inl ⟨by rfl, ?_⟩) hHeld ?_
    rotate_left
    · (intro w hSw; (try dsimp only at hSw); go_simp; all_goals (with_reducible rfl))
    try simp only [Act.put, List.setIfInBounds_toArray, List.set_cons_zero, List.set_cons_succ]
    refine lets_take (i := 6) (d := 46) (v := ?_) rfl rfl (by kernel_rfl) (by kernel_rfl) (by kernel_rfl) (by kernel_rfl) (fun _ _ _ h => h) (Or.inl ⟨by rfl, ?_⟩) hHeld ?_
    rotate_left
    · (intro w hSw; (try dsimp only at hSw); go_simp; all_goals (with_reducible rfl))
    try simp only [Act.put, List.setIfInBounds_toArray, List.set_cons_zero, List.set_cons_succ]
    refine lets_take (i := 7) (d := 47) (v := ?_) rfl rfl (by kernel_rfl) (by kernel_rfl) (by kernel_rfl) (by kernel_rfl) (fun _ _ _ h => h) (Or.inl ⟨by rfl, ?_⟩) hHeld ?_
    rotate_left
    · (intro w hSw; (try dsimp only at hSw); go_simp; all_goals (with_reducible rfl))
    try simp only [Act.put, List.setIfInBounds_toArray, List.set_cons_zero, List.set_cons_succ]
    refine lets_take (i := 9) (d := 49) (v := ?_) rfl rfl (by kernel_rfl) (by kernel_rfl) (by kernel_rfl) (by kernel_rfl) (fun _ _ _ h => h) (Or.inl ⟨by rfl, ?_⟩) hHeld ?_
    rotate_left
    · (intro w hSw; (try dsimp only at hSw); go_simp; all_goals (with_reducible rfl))
    try simp only [Act.put, List.setIfInBounds_toArray, List.set_cons_zero, List.set_cons_succ]
    have cl1 := clone_any _ rd w5.drew (HR5.out.later (Below.refl _ w5).drew)
    refine lets_one (i := 8) (by kernel_rfl) rfl (fun K hK => ?_)
    go_simp
    refine cl1.mono ?_
    rintro e w6 ⟨⟨v6, rfl, hv6⟩, hb6⟩
    obtain ⟨ra6, rc6, rfl, -⟩ := hv6.slice
    have b6 : Below w5.heap.size w5 w6 := (Below.refl _ w5).drew.trans hb6
    have y0 := cell_later b6 c0
    have y1 := cell_later b6 p0
    have y2 := cell_later b6 p1
    go_wp2_with fail
    refine hK.out _ _ ?_ (fun hHeld => ?_)
    · exact fun _ => ⟨y0, y1, y2⟩
    replace hHeld := hHeld (by decide)
    clear hK K
    try simp only [Act.put, List.setIfInBounds_toArray, List.set_cons_zero, List.set_cons_succ]
    clear cl1
    have cl2 := clone_any _ wr w6 (HW5.out.later b6)
    refine lets_one (i := 10) (by kernel_rfl) rfl (fun K hK => ?_)
    go_simp
    refine cl2.mono ?_
    rintro e w7 ⟨⟨v7, rfl, hv7⟩, hb7⟩
    obtain ⟨wa7, wc7, rfl, -⟩ := hv7.slice
    have b7 : Below w5.heap.size w5 w7 := b6.trans (hb7.mono b6.size)
    have x0 := cell_later b7 c0
    have x1 := cell_later b7 p0
    have x2 := cell_later b7 p1
    go_wp2_with fail
    refine hK.out _ _ ?_ (fun hHeld => ?_)
    · exact fun _ => ⟨x0, x1, x2⟩
    replace hHeld := hHeld (by decide)
    clear hK K
    try simp only [Act.put, List.setIfInBounds_toArray, List.set_cons_zero, List.set_cons_succ]
    have hv67 := hv6.later hb7
    clear cl2 y0 y1 y2 hb6 hb7 hv6
    refine lets_take (i := 11) (d := 51) (v := ?_) rfl rfl (by kernel_rfl) (by kernel_rfl) (by kernel_rfl) (by kernel_rfl) (fun _ _ _ h => h) (Or.inl ⟨by rfl, ?_⟩) hHeld ?_
    rotate_left
    · (intro w hSw; (try dsimp only at hSw); go_simp; all_goals (with_reducible rfl))
    try simp only [Act.put, List.setIfInBounds_toArray, List.set_cons_zero, List.set_cons_succ]
    refine lets_one (i := 12) (by kernel_rfl) rfl (fun K hK => ?_)
    go_simp
    have b8 : Below w7.heap.size w7 (w7.alloc (.cells #[.int .i64 id.1, .int .u64 id.2, .int .i64 a, .int .i64 0, .slice ra6 rd.length rc6, .slice wa7 wr.length wc7] 58)) := (Below.refl _ _).alloc (Nat.le_refl _) _
    have b58 := b7.trans (b8.mono b7.size)
    refine hK.out _ _ ?_ (fun hHeld => ?_)
    · exact fun _ => ⟨cell_later b8 x0, cell_later b8 x1, cell_later b8 x2⟩
    replace hHeld := hHeld (by decide)
    clear hK K
    try simp only [Act.put, List.setIfInBounds_toArray, List.set_cons_zero, List.set_cons_succ]
    have hn8 := heap_alloc_new w7 (.cells #[.int .i64 id.1, .int .u64 id.2, .int .i64 a, .int .i64 0, .slice ra6 rd.length rc6, .slice wa7 wr.length wc7] 58)
    have hown : (w7.alloc (.cells #[.int .i64 id.1, .int .u64 id.2, .int .i64 a, .int .i64 0, .slice ra6 rd.length rc6, .slice wa7 wr.length wc7] 58)).ownsRow base 58 6 (.slice ha H.length hc) H.length (H.flatMap Spn.cells) := (HH.out.2.1.later b58).own
    have HH2 : Hid ((w7.alloc (.cells #[.int .i64 id.1, .int .u64 id.2, .int .i64 a, .int .i64 0, .slice ra6 rd.length rc6, .slice wa7 wr.length wc7] 58)).heap[g]? = some (.cells #[.slice ha H.length hc, .slice fa F.length fc, .int .i64 last] 54 (0, 0)) ∧ SpO (w7.alloc (.cells #[.int .i64 id.1, .int .u64 id.2, .int .i64 a, .int .i64 0, .slice ra6 rd.length rc6, .slice wa7 wr.length wc7] 58)) base (.slice ha H.length hc) H ∧ SpO (w7.alloc (.cells #[.int .i64 id.1, .int .u64 id.2, .int .i64 a, .int .i64 0, .slice ra6 rd.length rc6, .slice wa7 wr.length wc7] 58)) base (.slice fa F.length fc) F) := ⟨(b58.block g (Array.getElem?_eq_some_iff.1 HH.out.1).1).trans HH.out.1, HH.out.2.1.later b58, HH.out.2.2.1.later b58⟩
    have HKK : Hid (SR (w7.alloc (.cells #[.int .i64 id.1, .int .u64 id.2, .int .i64 a, .int .i64 0, .slice ra6 rd.length rc6, .slice wa7 wr.length wc7] 58)) (.slice ra6 rd.length rc6) rd ∧ SR (w7.alloc (.cells #[.int .i64 id.1, .int .u64 id.2, .int .i64 a, .int .i64 0, .slice ra6 rd.length rc6, .slice wa7 wr.length wc7] 58)) (.slice wa7 wr.length wc7) wr) := ⟨hv67.later b8, hv7.later b8⟩
    have hsz8 : base ≤ (w7.alloc (.cells #[.int .i64 id.1, .int .u64 id.2, .int .i64 a, .int .i64 0, .slice ra6 rd.length rc6, .slice wa7 wr.length wc7] 58)).heap.size := by have := b58.size; have := HB5s.out; omega
    have HB8 : Hid (Fr base [54, 58] w (w7.alloc (.cells #[.int .i64 id.1, .int .u64 id.2, .int .i64 a, .int .i64 0, .slice ra6 rd.length rc6, .slice wa7 wr.length wc7] 58))) := (Fr.of HB5.out).trans (Fr.of b58)
    have hfb : ∀ k, (Value.slice ha H.length hc).ownBlock = some k → k ≠ w.heap.size := fun k hk e => by have := (ownBlock_58 HH.out.2.1.own k hk).2.2; rw [e, tagOf_heap HN5.out] at this; cases this
    have hu1 := Spn.one (s := ⟨id, a, 0, rd, wr, .slice ra6 rd.length rc6, .slice wa7 wr.length wc7⟩) HKK.out.1 HKK.out.2
    have hc2 := news_one Spn.cells ⟨id, a, 0, rd, wr, .slice ra6 rd.length rc6, .slice wa7 wr.length wc7⟩ hn8 rfl
    obtain ⟨d0, d1, d2⟩ := hHeld
    clear b8 b58 b7 b6 x0 x1 x2 hv67 hv7 c0 p0 p1
    refine lets_one (i := 13) (by kernel_rfl) rfl (fun K hK => ?_)
    refine step_append_els Spn.cells 6 80 52 58 _ Try.underlying52 Try.info_58 rfl (by decide) (fun _ => rfl) (by decide) rfl _ _ rfl base _ H rfl hown ⟨w7.heap.size, 0, none⟩ 1 1 [⟨id, a, 0, rd, wr, .slice ra6 rd.length rc6, .slice wa7 wr.length wc7⟩] rfl rfl hc2 hu1 (by decide) (by omega) hsz8 ?_
    intro v9 w9 ho9 hg9 hv9
    obtain ⟨va, vn, vc, rfl⟩ := owns_slice ho9
    obtain ⟨hT, hF, g9⟩ := Tb.put_held (a := a) HH2.out.1 HLO.out HH2.out.2.1 HH2.out.2.2 HH.out.2.2.2 (H' := H ++ [⟨id, a, 0, rd, wr, .slice ra6 rd.length rc6, .slice wa7 wr.length wc7⟩]) (fun t ht => (List.mem_append.1 ht).elim (fun h => HH2.out.2.1.keys t h) (fun h => by simp only [List.mem_cons, List.not_mem_nil, or_false] at h; subst h; exact HKK.out)) ho9 hg9 hv9
    have r0 : w9.cell? ⟨g, 0, none⟩ = some (.slice ha H.length hc) := cell_of_heap g9 rfl
    have r1 : w9.cell? ⟨w.heap.size, 0, none⟩ = some (.int .i64 id.1) := hg9.cell d1 (fun e => hfb _ e.symm rfl)
    have r2 : w9.cell? ⟨w.heap.size, 1, none⟩ = some (.int .u64 id.2) := hg9.cell d2 (fun e => hfb _ e.symm rfl)
    have f0 : w9.frozen? ⟨g, 0, none⟩ = false := frozen_of_row w9 _ _ _ _ g9
    have HT : Hid (Tb ((w9.setCell ⟨g, 0, none⟩ (.slice va vn vc)).setCell ⟨g, 2, none⟩ (.int .i64 a)) base g (H ++ [⟨id, a, 0, rd, wr, .slice ra6 rd.length rc6, .slice wa7 wr.length wc7⟩]) F a ∧ Fr base [54, 58] w ((w9.setCell ⟨g, 0, none⟩ (.slice va vn vc)).setCell ⟨g, 2, none⟩ (.int .i64 a))) := ⟨hT, HB8.out.trans hF⟩
    have z2 : (w9.setCell ⟨g, 0, none⟩ (.slice va vn vc)).cell? ⟨g, 2, none⟩ = some (.int .i64 last) := cell_of_heap (three_set0 g9) rfl
    have z3 : (w9.setCell ⟨g, 0, none⟩ (.slice va vn vc)).frozen? ⟨g, 2, none⟩ = false := frozen_of_row _ _ _ _ _ (three_set0 g9)
    refine hK.out _ _ ?_ (fun hHeld => ?_)
    · exact fun _ => ⟨r0, r1, r2⟩
    replace hHeld := hHeld (by decide)
    clear hK K
    try simp only [Act.put, List.setIfInBounds_toArray, List.set_cons_zero, List.set_cons_succ]
    clear hT hF ho9 hg9 hv9 hown hc2 hu1 g9 d0 d1 d2
    refine lets_one (i := 14) (by kernel_rfl) rfl (fun K hK => ?_)
    go_simp
    refine hK.out _ _ ?_ (fun hHeld => ?_)
    · exact fun _ => hHeld
    replace hHeld := hHeld (by decide)
    clear hK K
    try simp only [Act.put, List.setIfInBounds_toArray, List.set_cons_zero, List.set_cons_succ]
    refine lets_one (i := 15) (by kernel_rfl) rfl (fun K hK => ?_)
    go_simp
    refine hK.out _ _ ?_ (fun hHeld => ?_)
    · exact fun _ => hHeld
    replace hHeld := hHeld (by decide)
    clear hK K
    try simp only [Act.put, List.setIfInBounds_toArray, List.set_cons_zero, List.set_cons_succ]
    refine lets_one (i := 16) (by kernel_rfl) rfl (fun K hK => ?_)
    go_simp
    refine hK.out _ _ ?_ (fun hHeld => ?_)
    · exact fun h => absurd rfl h
    clear hK K
    try simp only [Act.put, List.setIfInBounds_toArray, List.set_cons_zero, List.set_cons_succ]
    refine lets_done (by kernel_rfl) ?_ _
    refine NoPanic.normal ?_
    go_wp2
    go_ret
    exact ⟨by rw [HE.out]; rfl, ⟨fun _ => ⟨_, _, HT.out.1⟩, fun e => absurd HE.out e⟩, HT.out.2⟩
end Go.Proofs.Ytbhohedkgeokgaa
