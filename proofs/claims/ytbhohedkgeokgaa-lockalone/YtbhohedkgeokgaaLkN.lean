/- One of the law's calls, of both tables: a contract. -/
import Derived.Test.YtbhohedkgeokgaaLkL
import Derived.Test.YtbhohedkgeokgaaLkP
import Derived.Test.YtbhohedkgeokgaaLkQ
namespace Go.Proofs.Ytbhohedkgeokgaa
open Go Go.RowKit
set_option linter.unusedVariables false
set_option linter.unusedSimpArgs false

/-- both tables, side by side, behind c calls -/
structure Both (w : World) (base gt gr c : Nat) (G F : List Spn) (last : Int) : Prop where
  t : Tb w base gt (heldG G) F last
  r : Rt w base gr (rowsG G) last
  inv : Inv G F last
  lenG : G.length ≤ c
  lenF : F.length ≤ c
  lenR : (rowsG G).length ≤ 13 * c
theorem Both.later {w w' : World} {base gt gr c : Nat} {G F : List Spn} {last : Int} (h : Both w base gt gr c G F last) (hb : Below w.heap.size w w') : Both w' base gt gr c G F last := ⟨h.t.later hb, h.r.later hb, h.inv, h.lenG, h.lenF, h.lenR⟩
theorem heldG_length (G : List Spn) : (heldG G).length ≤ G.length := List.length_filter_le _ _
theorem rowsG_end (id : Id) (a : Int) (G : List Spn) : (rowsG (G.map (endS id a))).length = (rowsG G).length := by rw [← end_rows, List.length_map]
theorem keepF_length (F : List Spn) (s : Spn) (a : Int) : (keepF F s a).length ≤ F.length + 1 := by
  unfold keepF
  split <;> simp

/-- both have taken -/
theorem Both.take {w w1 w2 w3 : World} {base gt gr c : Nat} {G F : List Spn} {last : Int} {id : Id} {a : Int} {rd wl : List ByteArray} (h : Both w base gt gr c G F last) (h1 : Taken w1 base gt (heldG G) F last id a rd wl) (f1 : Fr base [54, 58] w w1) (hb : Below w1.heap.size w1 w2) (h2 : RTaken w3 base gr (rowsG G) last id a rd wl) (f2 : Fr base [28, 47] w2 w3) (hrd : rd.length ≤ 6) (hwl : wl.length ≤ 6) :
    ∃ G' F' last', Both w3 base gt gr (c + 1) G' F' last' := by
  have e := take_rows G F last h.inv id a rd wl
  by_cases h0 : takeE (heldG G) last id a rd wl = 0
  · obtain ⟨rv, wv, hT⟩ := h1.yes h0
    have hR := h2.yes (by rw [e]; exact h0)
    refine ⟨G ++ [⟨id, a, 0, rd, wl, rv, wv⟩], F, a, ?_, ?_, h.inv.take rfl h0, ?_, ?_, ?_⟩
    · rw [held_new _ _ rfl]
      exact (hT.later hb).fr f2 (by simp) (by simp) (by simp)
    · rw [take_rows_new]
      exact hR
    · have := h.lenG; simp; omega
    · have := h.lenF; omega
    · have := h.lenR
      rw [take_rows_new, List.length_append, newRows_length]
      simp only
      omega
  · have hT := h1.no h0
    have hR := h2.no (by rw [e]; exact h0)
    exact ⟨G, F, last, (hT.later hb).fr f2 (by simp) (by simp) (by simp), hR, h.inv, by have := h.lenG; omega, by have := h.lenF; omega, by have := h.lenR; omega⟩
/-- both have freed -/
theorem Both.free {w w1 w3 : World} {base gt gr c : Nat} {G F : List Spn} {last : Int} {id : Id} {a : Int} (h : Both w base gt gr c G F last) (h1 : Freed w1 base gt (heldG G) F last id a) (h2 : RFreed w3 base gr (rowsG G) last id a) (f2 : Fr base [28, 47] w1 w3) :
    ∃ G' F' last', Both w3 base gt gr (c + 1) G' F' last' := by
  have e := free_rows G last id a
  by_cases h0 : freeE (heldG G) last id a = 0
  · obtain ⟨s, hs, hi, hT⟩ := h1.yes h0
    have hR := h2.yes (by rw [e]; exact h0)
    have hla : last < a := by
      unfold freeE at h0
      by_cases hle : a ≤ last
      · rw [if_pos hle] at h0; cases h0
      · omega
    have hn := h.inv.nonneg
    refine ⟨G.map (endS id a), keepF F s a, a, ?_, ?_, h.inv.free id a hla hs hi, ?_, ?_, ?_⟩
    · rw [held_end id a (by omega) G h.inv.apart]
      exact hT.fr f2 (by simp) (by simp) (by simp)
    · rw [← end_rows]
      exact hR
    · have := h.lenG; simp; omega
    · have := h.lenF; have := keepF_length F s a; omega
    · have := h.lenR; rw [rowsG_end]; omega
  · have hT := h1.no h0
    have hR := h2.no (by rw [e]; exact h0)
    exact ⟨G, F, last, hT.fr f2 (by simp) (by simp) (by simp), hR, h.inv, by have := h.lenG; omega, by have := h.lenF; omega, by have := h.lenR; omega⟩

set_option maxRecDepth 100000 in
set_option maxHeartbeats 16000000 in
theorem step_any (w0 : World) (gt gr c : Nat) (G F : List Spn) (last : Int) (o : Lop) (w : World) (hb0 : Below w0.heap.size w0 w) (ho : o.ok w0) (h : Both w w0.heap.size gt gr c G F last) (hc : c ≤ 100) :
    Calls Try.prog 8 #[.pointer (some ⟨gt, 0, none⟩), .pointer (some ⟨gr, 0, none⟩), lopv o] w fun e w' => e = .returned (.bool true) ∧ (∃ G' F' last', Both w' w0.heap.size gt gr (c + 1) G' F' last') ∧ Fr w0.heap.size [54, 58, 28, 47] w w' := by
  obtain ⟨kd, id, a, ra, rn, rc, wa, wn, wc, R, W⟩ := o
  have hrd := ho.rd
  have hwr := ho.wr
  simp only at hrd hwr
  have HRD : Hid (Strs w0 ra rn R) := hrd
  have HWR : Hid (Strs w0 wa wn W) := hwr
  have hbx : Below w.heap.size w (w.alloc (.cells #[.int .i64 kd, .int .i64 id.1, .int .u64 id.2, .int .i64 a, .slice ra rn rc, .slice wa wn wc] 34)) := (Below.refl _ _).alloc (Nat.le_refl _) _
  have hn := heap_alloc_new w (.cells #[.int .i64 kd, .int .i64 id.1, .int .u64 id.2, .int .i64 a, .slice ra rn rc, .slice wa wn wc] 34)
  have HN : Hid ((w.alloc (.cells #[.int .i64 kd, .int .i64 id.1, .int .u64 id.2, .int .i64 a, .slice ra rn rc, .slice wa wn wc] 34)).heap[w.heap.size]? = some (.cells #[.int .i64 kd, .int .i64 id.1, .int .u64 id.2, .int .i64 a, .slice ra rn rc, .slice wa wn wc] 34)) := hn
  have HB0 : Hid (Below w0.heap.size w0 w) := hb0
  have HB1 : Hid (Below w0.heap.size w0 (w.alloc (.cells #[.int .i64 kd, .int .i64 id.1, .int .u64 id.2, .int .i64 a, .slice ra rn rc, .slice wa wn wc] 34))) := hb0.trans (hbx.mono hb0.size)
  have HBX : Hid (Below w.heap.size w (w.alloc (.cells #[.int .i64 kd, .int .i64 id.1, .int .u64 id.2, .int .i64 a, .slice ra rn rc, .slice wa wn wc] 34))) := hbx
  have HBO : Hid (Both (w.alloc (.cells #[.int .i64 kd, .int .i64 id.1, .int .u64 id.2, .int .i64 a, .slice ra rn rc, .slice wa wn wc] 34)) w0.heap.size gt gr c G F last) := h.later hbx
  have c0 : (w.alloc (.cells #[.int .i64 kd, .int .i64 id.1, .int .u64 id.2, .int .i64 a, .slice ra rn rc, .slice wa wn wc] 34)).cell? ⟨w.heap.size, 0, none⟩ = some (.int .i64 kd) := cell_of_heap hn rfl
  have hlH := heldG_length G
  have hlG := h.lenG
  have hlF := h.lenF
  have hlR := h.lenR
  have h1000 : (heldG G).length ≤ 1000 := by omega
  have hF1000 : F.length ≤ 1000 := by omega
  have hR1000 : (rowsG G).length ≤ 100000 := by omega
  have HG : Hid (∃ G' F' last', Both (w.alloc (.cells #[.int .i64 kd, .int .i64 id.1, .int .u64 id.2, .int .i64 a, .slice ra rn rc, .slice wa wn wc] 34)) w0.heap.size gt gr (c + 1) G' F' last') := ⟨G, F, last, HBO.out.t, HBO.out.r, HBO.out.inv, by omega, by omega, by omega⟩
  clear hrd hwr ho hbx hb0 h hlH hlG hlF hlR hn
  rcases (show kd = 0 ∨ kd = 1 ∨ kd = 2 ∨ kd = 3 ∨ (¬ kd = 0 ∧ ¬ kd = 1 ∧ ¬ kd = 2 ∧ ¬ kd = 3) by omega) with rfl | rfl | rfl | rfl | ⟨n0, n1, n2, n3⟩
  · go_enter Try.func8, Try.ntmps8
    go_upto_region 5 with fail
    clear c0
    generalize w.alloc (.cells #[.int .i64 0, .int .i64 id.1, .int .u64 id.2, .int .i64 a, .slice ra rn rc, .slice wa wn wc] 34) = w1 at *
    have c1 : w1.cell? ⟨w.heap.size, 1, none⟩ = some (.int .i64 id.1) := cell_of_heap HN.out rfl
    have c2 : w1.cell? ⟨w.heap.size, 2, none⟩ = some (.int .u64 id.2) := cell_of_heap HN.out rfl
    have c3 : w1.cell? ⟨w.heap.size, 3, none⟩ = some (.int .i64 a) := cell_of_heap HN.out rfl
    have c4 : w1.cell? ⟨w.heap.size, 4, none⟩ = some (.slice ra rn rc) := cell_of_heap HN.out rfl
    have c5 : w1.cell? ⟨w.heap.size, 5, none⟩ = some (.slice wa wn wc) := cell_of_heap HN.out rfl
    refine wp_region_noPanic ?_
    refine wp_region_lets 25 (fun w' => w'.cell? ⟨w.heap.size, 1, none⟩ = some (.int .i64 id.1) ∧ w'.cell? ⟨w.heap.size, 2, none⟩ = some (.int .u64 id.2) ∧ w'.cell? ⟨w.heap.size, 3, none⟩ = some (.int .i64 a) ∧ w'.cell? ⟨w.heap.size, 4, none⟩ = some (.slice ra rn rc) ∧ w'.cell? ⟨w.heap.size, 5, none⟩ = some (.slice wa wn wc)) (by kernel_rfl) ?_ (fun hHeld => ?_)
    · exact ⟨c1, c2, c3, c4, c5⟩
    refine lets_take (i := 0) (d := 13) (v := ?_) rfl rfl (by kernel_rfl) (by kernel_rfl) (by kernel_rfl) (by kernel_rfl) (fun _ _ _ h => h) (Or.inl ⟨by rfl, ?_⟩) hHeld ?_
    rotate_left
    · (intro w hSw; (try dsimp only at hSw); go_simp; all_goals (with_reducible rfl))
    try simp only [Act.put, List.setIfInBounds_toArray, List.set_cons_zero, List.set_cons_succ]
    refine lets_take (i := 1) (d := 14) (v := ?_) rfl rfl (by kernel_rfl) (by kernel_rfl) (by kernel_rfl) (by kernel_rfl) (fun _ _ _ h => h) (Or.inl ⟨by rfl, ?_⟩) hHeld ?_
    rotate_left
    · (intro w hSw; (try dsimp only at hSw); go_simp; all_goals (with_reducible rfl))
    try simp only [Act.put, List.setIfInBounds_toArray, List.set_cons_zero, List.set_cons_succ]
    refine lets_take (i := 2) (d := 15) (v := ?_) rfl rfl (by kernel_rfl) (by kernel_rfl) (by kernel_rfl) (by kernel_rfl) (fun _ _ _ h => h) (Or.inl ⟨by rfl, ?_⟩) hHeld ?_
    rotate_left
    · (intro w hSw; (try dsimp only at hSw); go_simp; all_goals (with_reducible rfl))
    try simp only [Act.put, List.setIfInBounds_toArray, List.set_cons_zero, List.set_cons_succ]
    refine lets_take (i := 3) (d := 16) (v := ?_) rfl rfl (by kernel_rfl) (by kernel_rfl) (by kernel_rfl) (by kernel_rfl) (fun _ _ _ h => h) (Or.inl ⟨by rfl, ?_⟩) hHeld ?_
    rotate_left
    · (intro w hSw; (try dsimp only at hSw); go_simp; all_goals (with_reducible rfl))
    try simp only [Act.put, List.setIfInBounds_toArray, List.set_cons_zero, List.set_cons_succ]
    refine lets_take (i := 4) (d := 17) (v := ?_) rfl rfl (by kernel_rfl) (by kernel_rfl) (by kernel_rfl) (by kernel_rfl) (fun _ _ _ h => h) (Or.inl ⟨by rfl, ?_⟩) hHeld ?_
    rotate_left
    · (intro w hSw; (try dsimp only at hSw); go_simp; all_goals (with_reducible rfl))
    try simp only [Act.put, List.setIfInBounds_toArray, List.set_cons_zero, List.set_cons_succ]
    refine lets_take (i := 5) (d := 18) (v := ?_) rfl rfl (by kernel_rfl) (by kernel_rfl) (by kernel_rfl) (by kernel_rfl) (fun _ _ _ h => h) (Or.inl ⟨by rfl, ?_⟩) hHeld ?_
    rotate_left
    · (intro w hSw; (try dsimp only at hSw); go_simp; all_goals (with_reducible rfl))
    try simp only [Act.put, List.setIfInBounds_toArray, List.set_cons_zero, List.set_cons_succ]
    refine lets_take (i := 6) (d := 19) (v := ?_) rfl rfl (by kernel_rfl) (by kernel_rfl) (by kernel_rfl) (by kernel_rfl) (fun _ _ _ h => h) (Or.inl ⟨by rfl, ?_⟩) hHeld ?_
    rotate_left
    · (intro w hSw; (try dsimp only at hSw); go_simp; all_goals (with_reducible rfl))
    try simp only [Act.put, List.setIfInBounds_toArray, List.set_cons_zero, List.set_cons_succ]
    refine lets_take (i := 8) (d := 21) (v := ?_) rfl rfl (by kernel_rfl) (by kernel_rfl) (by kernel_rfl) (by kernel_rfl) (fun _ _ _ h => h) (Or.inl ⟨by rfl, ?_⟩) hHeld ?_
    rotate_left
    · (intro w hSw; (try dsimp only at hSw); go_simp; all_goals (with_reducible rfl))
    try simp only [Act.put, List.setIfInBounds_toArray, List.set_cons_zero, List.set_cons_succ]
    refine lets_take (i := 9) (d := 22) (v := ?_) rfl rfl (by kernel_rfl) (by kernel_rfl) (by kernel_rfl) (by kernel_rfl) (fun _ _ _ h => h) (Or.inl ⟨by rfl, ?_⟩) hHeld ?_
    rotate_left
    · (intro w hSw; (try dsimp only at hSw); go_simp; all_goals (with_reducible rfl))
    try simp only [Act.put, List.setIfInBounds_toArray, List.set_cons_zero, List.set_cons_succ]
    refine lets_take (i := 12) (d := 25) (v := ?_) rfl rfl (by kernel_rfl) (by kernel_rfl) (by kernel_rfl) (by kernel_rfl) (fun _ _ _ h => h) (Or.inl ⟨by rfl, ?_⟩) hHeld ?_
    rotate_left
    · (intro w hSw; (try dsimp only at hSw); go_simp; all_goals (with_reducible rfl))
    try simp only [Act.put, List.setIfInBounds_toArray, List.set_cons_zero, List.set_cons_succ]
    refine lets_take (i := 13) (d := 26) (v := ?_) rfl rfl (by kernel_rfl) (by kernel_rfl) (by kernel_rfl) (by kernel_rfl) (fun _ _ _ h => h) (Or.inl ⟨by rfl, ?_⟩) hHeld ?_
    rotate_left
    · (intro w hSw; (try dsimp only at hSw); go_simp; all_goals (with_reducible rfl))
    try simp only [Act.put, List.setIfInBounds_toArray, List.set_cons_zero, List.set_cons_succ]
    refine lets_take (i := 14) (d := 27) (v := ?_) rfl rfl (by kernel_rfl) (by kernel_rfl) (by kernel_rfl) (by kernel_rfl) (fun _ _ _ h => h) (Or.inl ⟨by rfl, ?_⟩) hHeld ?_
    rotate_left
    · (intro w hSw; (try dsimp only at hSw); go_simp; all_goals (with_reducible rfl))
    try simp only [Act.put, List.setIfInBounds_toArray, List.set_cons_zero, List.set_cons_succ]
    refine lets_take (i := 15) (d := 28) (v := ?_) rfl rfl (by kernel_rfl) (by kernel_rfl) (by kernel_rfl) (by kernel_rfl) (fun _ _ _ h => h) (Or.inl ⟨by rfl, ?_⟩) hHeld ?_
    rotate_left
    · (intro w hSw; (try dsimp only at hSw); go_simp; all_goals (with_reducible rfl))
    try simp only [Act.put, List.setIfInBounds_toArray, List.set_cons_zero, List.set_cons_succ]
    refine lets_take (i := 16) (d := 29) (v := ?_) rfl rfl (by kernel_rfl) (by kernel_rfl) (by kernel_rfl) (by kernel_rfl) (fun _ _ _ h => h) (Or.inl ⟨by rfl, ?_⟩) hHeld ?_
    rotate_left
    · (intro w hSw; (try dsimp only at hSw); go_simp; all_goals (with_reducible rfl))
    try simp only [Act.put, List.setIfInBounds_toArray, List.set_cons_zero, List.set_cons_succ]
    refine lets_take (i := 17) (d := 30) (v := ?_) rfl rfl (by kernel_rfl) (by kernel_rfl) (by kernel_rfl) (by kernel_rfl) (fun _ _ _ h => h) (Or.inl ⟨by rfl, ?_⟩) hHeld ?_
    rotate_left
    · (intro w hSw; (try dsimp only at hSw); go_simp; all_goals (with_reducible rfl))
    try simp only [Act.put, List.setIfInBounds_toArray, List.set_cons_zero, List.set_cons_succ]
    refine lets_take (i := 18) (d := 31) (v := ?_) rfl rfl (by kernel_rfl) (by kernel_rfl) (by kernel_rfl) (by kernel_rfl) (fun _ _ _ h => h) (Or.inl ⟨by rfl, ?_⟩) hHeld ?_
    rotate_left
    · (intro w hSw; (try dsimp only at hSw); go_simp; all_goals (with_reducible rfl))
    try simp only [Act.put, List.setIfInBounds_toArray, List.set_cons_zero, List.set_cons_succ]
    refine lets_take (i := 20) (d := 33) (v := ?_) rfl rfl (by kernel_rfl) (by kernel_rfl) (by kernel_rfl) (by kernel_rfl) (fun _ _ _ h => h) (Or.inl ⟨by rfl, ?_⟩) hHeld ?_
    rotate_left
    · (intro w hSw; (try dsimp only at hSw); go_simp; all_goals (with_reducible rfl))
    try simp only [Act.put, List.setIfInBounds_toArray, List.set_cons_zero, List.set_cons_succ]
    refine lets_take (i := 21) (d := 34) (v := ?_) rfl rfl (by kernel_rfl) (by kernel_rfl) (by kernel_rfl) (by kernel_rfl) (fun _ _ _ h => h) (Or.inl ⟨by rfl, ?_⟩) hHeld ?_
    rotate_left
    · (intro w hSw; (try dsimp only at hSw); go_simp; all_goals (with_reducible rfl))
    try simp only [Act.put, List.setIfInBounds_toArray, List.set_cons_zero, List.set_cons_succ]
    clear c1 c2 c3 c4 c5
    have d0 : Below w0.heap.size w0 w1.drew := HB1.out.drew
    have hs0 := HB1.out.size
    have q1 := few_any ra rn rc R w1.drew (HRD.out.later d0)
    refine lets_one (i := 7) (by kernel_rfl) rfl (fun K hK => ?_)
    go_simp
    refine q1.mono ?_
    rintro e w2 ⟨⟨v2, rfl, hv2⟩, hb2⟩
    have b2 : Below w1.heap.size w1 w2 := (Below.refl _ w1).drew.trans hb2
    obtain ⟨ra2, rc2, rfl, -⟩ := hv2.slice
    have B2 : Below w0.heap.size w0 w2 := HB1.out.trans (b2.mono HB1.out.size)
    have HN2 : Hid (w2.heap[w.heap.size]? = some (.cells #[.int .i64 0, .int .i64 id.1, .int .u64 id.2, .int .i64 a, .slice ra rn rc, .slice wa wn wc] 34)) := (b2.block _ (Array.getElem?_eq_some_iff.1 HN.out).1).trans HN.out
    have k2 : w2.cell? ⟨w.heap.size, 1, none⟩ = some (.int .i64 id.1) ∧ w2.cell? ⟨w.heap.size, 2, none⟩ = some (.int .u64 id.2) ∧ w2.cell? ⟨w.heap.size, 3, none⟩ = some (.int .i64 a) ∧ w2.cell? ⟨w.heap.size, 4, none⟩ = some (.slice ra rn rc) ∧ w2.cell? ⟨w.heap.size, 5, none⟩ = some (.slice wa wn wc) := ⟨cell_of_heap HN2.out rfl, cell_of_heap HN2.out rfl, cell_of_heap HN2.out rfl, cell_of_heap HN2.out rfl, cell_of_heap HN2.out rfl⟩
    go_wp2_with fail
    refine hK.out _ _ ?_ (fun hHeld => ?_)
    · exact fun _ => k2
    replace hHeld := hHeld (by decide)
    clear hK K
    try simp only [Act.put, List.setIfInBounds_toArray, List.set_cons_zero, List.set_cons_succ]
    clear q1 k2
    have q1 := few_any wa wn wc W w2 (HWR.out.later B2)
    refine lets_one (i := 10) (by kernel_rfl) rfl (fun K hK => ?_)
    go_simp
    refine q1.mono ?_
    rintro e w3 ⟨⟨v3, rfl, hv3⟩, hb3⟩
    obtain ⟨wa3, wc3, rfl, -⟩ := hv3.slice
    have B3 : Below w0.heap.size w0 w3 := B2.trans (hb3.mono B2.size)
    have b13 : Below w1.heap.size w1 w3 := b2.trans (hb3.mono b2.size)
    have HN3 : Hid (w3.heap[w.heap.size]? = some (.cells #[.int .i64 0, .int .i64 id.1, .int .u64 id.2, .int .i64 a, .slice ra rn rc, .slice wa wn wc] 34)) := (hb3.block _ (Array.getElem?_eq_some_iff.1 HN2.out).1).trans HN2.out
    have k3 : w3.cell? ⟨w.heap.size, 1, none⟩ = some (.int .i64 id.1) ∧ w3.cell? ⟨w.heap.size, 2, none⟩ = some (.int .u64 id.2) ∧ w3.cell? ⟨w.heap.size, 3, none⟩ = some (.int .i64 a) ∧ w3.cell? ⟨w.heap.size, 4, none⟩ = some (.slice ra rn rc) ∧ w3.cell? ⟨w.heap.size, 5, none⟩ = some (.slice wa wn wc) := ⟨cell_of_heap HN3.out rfl, cell_of_heap HN3.out rfl, cell_of_heap HN3.out rfl, cell_of_heap HN3.out rfl, cell_of_heap HN3.out rfl⟩
    go_wp2_with fail
    refine hK.out _ _ ?_ (fun hHeld => ?_)
    · exact fun _ => k3
    replace hHeld := hHeld (by decide)
    clear hK K
    try simp only [Act.put, List.setIfInBounds_toArray, List.set_cons_zero, List.set_cons_succ]
    have hv23 := hv2.later hb3
    clear q1 k3
    have HB3 : Hid (Both w3 w0.heap.size gt gr c G F last) := HBO.out.later b13
    have q1 := take_any w0.heap.size gt (heldG G) F last id a _ _ _ _ w3 HB3.out.t hv23 hv3 h1000 B3.size
    refine lets_one (i := 11) (by kernel_rfl) rfl (fun K hK => ?_)
    go_simp
    refine q1.mono ?_
    rintro e w4 ⟨rfl, hT4, hF4⟩
    have B4 : Below w0.heap.size w0 w4 := B3.trans (hF4.below B3.size)
    have HN4 : Hid (w4.heap[w.heap.size]? = some (.cells #[.int .i64 0, .int .i64 id.1, .int .u64 id.2, .int .i64 a, .slice ra rn rc, .slice wa wn wc] 34)) := hF4.cells HN3.out (by simp)
    have k4 : w4.cell? ⟨w.heap.size, 1, none⟩ = some (.int .i64 id.1) ∧ w4.cell? ⟨w.heap.size, 2, none⟩ = some (.int .u64 id.2) ∧ w4.cell? ⟨w.heap.size, 3, none⟩ = some (.int .i64 a) ∧ w4.cell? ⟨w.heap.size, 4, none⟩ = some (.slice ra rn rc) ∧ w4.cell? ⟨w.heap.size, 5, none⟩ = some (.slice wa wn wc) := ⟨cell_of_heap HN4.out rfl, cell_of_heap HN4.out rfl, cell_of_heap HN4.out rfl, cell_of_heap HN4.out rfl, cell_of_heap HN4.out rfl⟩
    go_wp2_with fail
    refine hK.out _ _ ?_ (fun hHeld => ?_)
    · exact fun _ => k4
    replace hHeld := hHeld (by decide)
    clear hK K
    try simp only [Act.put, List.setIfInBounds_toArray, List.set_cons_zero, List.set_cons_succ]
    have HT4 : Hid (Taken w4 w0.heap.size gt (heldG G) F last id a (fewL rn R) (fewL wn W)) := hT4
    have HF4 : Hid (Fr w0.heap.size [54, 58] w3 w4) := hF4
    clear q1 k4 hT4 hF4
    have q1 := few_any ra rn rc R w4 (HRD.out.later B4)
    refine lets_one (i := 19) (by kernel_rfl) rfl (fun K hK => ?_)
    go_simp
    refine q1.mono ?_
    rintro e w5 ⟨⟨v5, rfl, hv5⟩, hb5⟩
    obtain ⟨ra5, rc5, rfl, -⟩ := hv5.slice
    have B5 : Below w0.heap.size w0 w5 := B4.trans (hb5.mono B4.size)
    have HN5 : Hid (w5.heap[w.heap.size]? = some (.cells #[.int .i64 0, .int .i64 id.1, .int .u64 id.2, .int .i64 a, .slice ra rn rc, .slice wa wn wc] 34)) := (hb5.block _ (Array.getElem?_eq_some_iff.1 HN4.out).1).trans HN4.out
    have k5 : w5.cell? ⟨w.heap.size, 1, none⟩ = some (.int .i64 id.1) ∧ w5.cell? ⟨w.heap.size, 2, none⟩ = some (.int .u64 id.2) ∧ w5.cell? ⟨w.heap.size, 3, none⟩ = some (.int .i64 a) ∧ w5.cell? ⟨w.heap.size, 4, none⟩ = some (.slice ra rn rc) ∧ w5.cell? ⟨w.heap.size, 5, none⟩ = some (.slice wa wn wc) := ⟨cell_of_heap HN5.out rfl, cell_of_heap HN5.out rfl, cell_of_heap HN5.out rfl, cell_of_heap HN5.out rfl, cell_of_heap HN5.out rfl⟩
    go_wp2_with fail
    refine hK.out _ _ ?_ (fun hHeld => ?_)
    · exact fun _ => k5
    replace hHeld := hHeld (by decide)
    clear hK K
    try simp only [Act.put, List.setIfInBounds_toArray, List.set_cons_zero, List.set_cons_succ]
    clear q1 k5
    have q1 := few_any wa wn wc W w5 (HWR.out.later B5)
    refine lets_one (i := 22) (by kernel_rfl) rfl (fun K hK => ?_)
    go_simp
    refine q1.mono ?_
    rintro e w6 ⟨⟨v6, rfl, hv6⟩, hb6⟩
    obtain ⟨wa6, wc6, rfl, -⟩ := hv6.slice
    have B6 : Below w0.heap.size w0 w6 := B5.trans (hb6.mono B5.size)
    have b46 : Below w4.heap.size w4 w6 := hb5.trans (hb6.mono hb5.size)
    have HN6 : Hid (w6.heap[w.heap.size]? = some (.cells #[.int .i64 0, .int .i64 id.1, .int .u64 id.2, .int .i64 a, .slice ra rn rc, .slice wa wn wc] 34)) := (hb6.block _ (Array.getElem?_eq_some_iff.1 HN5.out).1).trans HN5.out
    have k6 : w6.cell? ⟨w.heap.size, 1, none⟩ = some (.int .i64 id.1) ∧ w6.cell? ⟨w.heap.size, 2, none⟩ = some (.int .u64 id.2) ∧ w6.cell? ⟨w.heap.size, 3, none⟩ = some (.int .i64 a) ∧ w6.cell? ⟨w.heap.size, 4, none⟩ = some (.slice ra rn rc) ∧ w6.cell? ⟨w.heap.size, 5, none⟩ = some (.slice wa wn wc) := ⟨cell_of_heap HN6.out rfl, cell_of_heap HN6.out rfl, cell_of_heap HN6.out rfl, cell_of_heap HN6.out rfl, cell_of_heap HN6.out rfl⟩
    go_wp2_with fail
    refine hK.out _ _ ?_ (fun hHeld => ?_)
    · exact fun _ => k6
    replace hHeld := hHeld (by decide)
    clear hK K
    try simp only [Act.put, List.setIfInBounds_toArray, List.set_cons_zero, List.set_cons_succ]
    have hv56 := hv5.later hb6
    clear q1 k6
    have q1 := rtake_any w0.heap.size gr (rowsG G) last id a _ _ _ _ w6 ((HB3.out.r.fr HF4.out (by simp) (by simp)).later b46) hv56 hv6 hR1000 B6.size
    refine lets_one (i := 23) (by kernel_rfl) rfl (fun K hK => ?_)
    go_simp
    refine q1.mono ?_
    rintro e w7 ⟨rfl, hT7, hF7⟩
    have HN7 : Hid (w7.heap[w.heap.size]? = some (.cells #[.int .i64 0, .int .i64 id.1, .int .u64 id.2, .int .i64 a, .slice ra rn rc, .slice wa wn wc] 34)) := hF7.cells HN6.out (by simp)
    have k7 : w7.cell? ⟨w.heap.size, 1, none⟩ = some (.int .i64 id.1) ∧ w7.cell? ⟨w.heap.size, 2, none⟩ = some (.int .u64 id.2) ∧ w7.cell? ⟨w.heap.size, 3, none⟩ = some (.int .i64 a) ∧ w7.cell? ⟨w.heap.size, 4, none⟩ = some (.slice ra rn rc) ∧ w7.cell? ⟨w.heap.size, 5, none⟩ = some (.slice wa wn wc) := ⟨cell_of_heap HN7.out rfl, cell_of_heap HN7.out rfl, cell_of_heap HN7.out rfl, cell_of_heap HN7.out rfl, cell_of_heap HN7.out rfl⟩
    go_wp2_with fail
    refine hK.out _ _ ?_ (fun hHeld => ?_)
    · exact fun _ => k7
    replace hHeld := hHeld (by decide)
    clear hK K
    try simp only [Act.put, List.setIfInBounds_toArray, List.set_cons_zero, List.set_cons_succ]
    have HFIN : Hid (∃ G' F' last', Both w7 w0.heap.size gt gr (c + 1) G' F' last') := HB3.out.take HT4.out HF4.out b46 hT7 hF7 hv5.few hv6.few
    have HFR : Hid (Fr w0.heap.size [54, 58, 28, 47] w w7) := ((((Fr.of HBX.out).trans (Fr.of b13)).trans (HF4.out.sub (by simp))).trans (Fr.of b46)).trans (hF7.sub (by simp))
    rw [take_rows G F last HB3.out.inv]
    generalize takeE (heldG G) last id a (fewL rn R) (fewL wn W) = res
    clear q1 k7 hT7 hF7 hv5 hv6 hv56 b46 b13 hv2 hv3 hv23 hb2 hb3 hb5 hb6
    refine lets_one (i := 24) (by kernel_rfl) rfl (fun K hK => ?_)
    go_simp
    refine hK.out _ _ ?_ (fun hHeld => ?_)
    · exact fun _ => hHeld
    replace hHeld := hHeld (by decide)
    clear hK K
    try simp only [Act.put, List.setIfInBounds_toArray, List.set_cons_zero, List.set_cons_succ]
    refine lets_one (i := 25) (by kernel_rfl) rfl (fun K hK => ?_)
    go_simp
    refine hK.out _ _ ?_ (fun hHeld => ?_)
    · exact fun h => absurd rfl h
    clear hK K
    try simp only [Act.put, List.setIfInBounds_toArray, List.set_cons_zero, List.set_cons_succ]
    refine lets_done (by kernel_rfl) ?_ _
    refine NoPanic.normal ?_
    go_wp2
    go_ret
    exact ⟨by simp, HFIN.out, HFR.out⟩
  · go_enter Try.func8, Try.ntmps8
    go_upto_region 5 with fail
    clear c0
    generalize w.alloc (.cells #[.int .i64 1, .int .i64 id.1, .int .u64 id.2, .int .i64 a, .slice ra rn rc, .slice wa wn wc] 34) = w1 at *
    have c1 : w1.cell? ⟨w.heap.size, 1, none⟩ = some (.int .i64 id.1) := cell_of_heap HN.out rfl
    have c2 : w1.cell? ⟨w.heap.size, 2, none⟩ = some (.int .u64 id.2) := cell_of_heap HN.out rfl
    have c3 : w1.cell? ⟨w.heap.size, 3, none⟩ = some (.int .i64 a) := cell_of_heap HN.out rfl
    have c4 : w1.cell? ⟨w.heap.size, 4, none⟩ = some (.slice ra rn rc) := cell_of_heap HN.out rfl
    have c5 : w1.cell? ⟨w.heap.size, 5, none⟩ = some (.slice wa wn wc) := cell_of_heap HN.out rfl
    refine wp_region_noPanic ?_
    refine wp_region_lets 25 (fun w' => w'.cell? ⟨w.heap.size, 1, none⟩ = some (.int .i64 id.1) ∧ w'.cell? ⟨w.heap.size, 2, none⟩ = some (.int .u64 id.2) ∧ w'.cell? ⟨w.heap.size, 3, none⟩ = some (.int .i64 a) ∧ w'.cell? ⟨w.heap.size, 4, none⟩ = some (.slice ra rn rc) ∧ w'.cell? ⟨w.heap.size, 5, none⟩ = some (.slice wa wn wc)) (by kernel_rfl) ?_ (fun hHeld => ?_)
    · exact ⟨c1, c2, c3, c4, c5⟩
    refine lets_take (i := 0) (d := 13) (v := ?_) rfl rfl (by kernel_rfl) (by kernel_rfl) (by kernel_rfl) (by kernel_rfl) (fun _ _ _ h => h) (Or.inl ⟨by rfl, ?_⟩) hHeld ?_
    rotate_left
    · (intro w hSw; (try dsimp only at hSw); go_simp; all_goals (with_reducible rfl))
    try simp only [Act.put, List.setIfInBounds_toArray, List.set_cons_zero, List.set_cons_succ]
    refine lets_take (i := 1) (d := 14) (v := ?_) rfl rfl (by kernel_rfl) (by kernel_rfl) (by kernel_rfl) (by kernel_rfl) (fun _ _ _ h => h) (Or.inl ⟨by rfl, ?_⟩) hHeld ?_
    rotate_left
    · (intro w hSw; (try dsimp only at hSw); go_simp; all_goals (with_reducible rfl))
    try simp only [Act.put, List.setIfInBounds_toArray, List.set_cons_zero, List.set_cons_succ]
    refine lets_take (i := 2) (d := 15) (v := ?_) rfl rfl (by kernel_rfl) (by kernel_rfl) (by kernel_rfl) (by kernel_rfl) (fun _ _ _ h => h) (Or.inl ⟨by rfl, ?_⟩) hHeld ?_
    rotate_left
    · (intro w hSw; (try dsimp only at hSw); go_simp; all_goals (with_reducible rfl))
    try simp only [Act.put, List.setIfInBounds_toArray, List.set_cons_zero, List.set_cons_succ]
    refine lets_take (i := 3) (d := 16) (v := ?_) rfl rfl (by kernel_rfl) (by kernel_rfl) (by kernel_rfl) (by kernel_rfl) (fun _ _ _ h => h) (Or.inl ⟨by rfl, ?_⟩) hHeld ?_
    rotate_left
    · (intro w hSw; (try dsimp only at hSw); go_simp; all_goals (with_reducible rfl))
    try simp only [Act.put, List.setIfInBounds_toArray, List.set_cons_zero, List.set_cons_succ]
    refine lets_take (i := 4) (d := 17) (v := ?_) rfl rfl (by kernel_rfl) (by kernel_rfl) (by kernel_rfl) (by kernel_rfl) (fun _ _ _ h => h) (Or.inl ⟨by rfl, ?_⟩) hHeld ?_
    rotate_left
    · (intro w hSw; (try dsimp only at hSw); go_simp; all_goals (with_reducible rfl))
    try simp only [Act.put, List.setIfInBounds_toArray, List.set_cons_zero, List.set_cons_succ]
    refine lets_take (i := 5) (d := 18) (v := ?_) rfl rfl (by kernel_rfl) (by kernel_rfl) (by kernel_rfl) (by kernel_rfl) (fun _ _ _ h => h) (Or.inl ⟨by rfl, ?_⟩) hHeld ?_
    rotate_left
    · (intro w hSw; (try dsimp only at hSw); go_simp; all_goals (with_reducible rfl))
    try simp only [Act.put, List.setIfInBounds_toArray, List.set_cons_zero, List.set_cons_succ]
    refine lets_take (i := 6) (d := 19) (v := ?_) rfl rfl (by kernel_rfl) (by kernel_rfl) (by kernel_rfl) (by kernel_rfl) (fun _ _ _ h => h) (Or.inl ⟨by rfl, ?_⟩) hHeld ?_
    rotate_left
    · (intro w hSw; (try dsimp only at hSw); go_simp; all_goals (with_reducible rfl))
    try simp only [Act.put, List.setIfInBounds_toArray, List.set_cons_zero, List.set_cons_succ]
    refine lets_take (i := 8) (d := 21) (v := ?_) rfl rfl (by kernel_rfl) (by kernel_rfl) (by kernel_rfl) (by kernel_rfl) (fun _ _ _ h => h) (Or.inl ⟨by rfl, ?_⟩) hHeld ?_
    rotate_left
    · (intro w hSw; (try dsimp only at hSw); go_simp; all_goals (with_reducible rfl))
    try simp only [Act.put, List.setIfInBounds_toArray, List.set_cons_zero, List.set_cons_succ]
    refine lets_take (i := 9) (d := 22) (v := ?_) rfl rfl (by kernel_rfl) (by kernel_rfl) (by kernel_rfl) (by kernel_rfl) (fun _ _ _ h => h) (Or.inl ⟨by rfl, ?_⟩) hHeld ?_
    rotate_left
    · (intro w hSw; (try dsimp only at hSw); go_simp; all_goals (with_reducible rfl))
    try simp only [Act.put, List.setIfInBounds_toArray, List.set_cons_zero, List.set_cons_succ]
    refine lets_take (i := 12) (d := 25) (v := ?_) rfl rfl (by kernel_rfl) (by kernel_rfl) (by kernel_rfl) (by kernel_rfl) (fun _ _ _ h => h) (Or.inl ⟨by rfl, ?_⟩) hHeld ?_
    rotate_left
    · (intro w hSw; (try dsimp only at hSw); go_simp; all_goals (with_reducible rfl))
    try simp only [Act.put, List.setIfInBounds_toArray, List.set_cons_zero, List.set_cons_succ]
    refine lets_take (i := 13) (d := 26) (v := ?_) rfl rfl (by kernel_rfl) (by kernel_rfl) (by kernel_rfl) (by kernel_rfl) (fun _ _ _ h => h) (Or.inl ⟨by rfl, ?_⟩) hHeld ?_
    rotate_left
    · (intro w hSw; (try dsimp only at hSw); go_simp; all_goals (with_reducible rfl))
    try simp only [Act.put, List.setIfInBounds_toArray, List.set_cons_zero, List.set_cons_succ]
    refine lets_take (i := 14) (d := 27) (v := ?_) rfl rfl (by kernel_rfl) (by kernel_rfl) (by kernel_rfl) (by kernel_rfl) (fun _ _ _ h => h) (Or.inl ⟨by rfl, ?_⟩) hHeld ?_
    rotate_left
    · (intro w hSw; (try dsimp only at hSw); go_simp; all_goals (with_reducible rfl))
    try simp only [Act.put, List.setIfInBounds_toArray, List.set_cons_zero, List.set_cons_succ]
    refine lets_take (i := 15) (d := 28) (v := ?_) rfl rfl (by kernel_rfl) (by kernel_rfl) (by kernel_rfl) (by kernel_rfl) (fun _ _ _ h => h) (Or.inl ⟨by rfl, ?_⟩) hHeld ?_
    rotate_left
    · (intro w hSw; (try dsimp only at hSw); go_simp; all_goals (with_reducible rfl))
    try simp only [Act.put, List.setIfInBounds_toArray, List.set_cons_zero, List.set_cons_succ]
    refine lets_take (i := 16) (d := 29) (v := ?_) rfl rfl (by kernel_rfl) (by kernel_rfl) (by kernel_rfl) (by kernel_rfl) (fun _ _ _ h => h) (Or.inl ⟨by rfl, ?_⟩) hHeld ?_
    rotate_left
    · (intro w hSw; (try dsimp only at hSw); go_simp; all_goals (with_reducible rfl))
    try simp only [Act.put, List.setIfInBounds_toArray, List.set_cons_zero, List.set_cons_succ]
    refine lets_take (i := 17) (d := 30) (v := ?_) rfl rfl (by kernel_rfl) (by kernel_rfl) (by kernel_rfl) (by kernel_rfl) (fun _ _ _ h => h) (Or.inl ⟨by rfl, ?_⟩) hHeld ?_
    rotate_left
    · (intro w hSw; (try dsimp only at hSw); go_simp; all_goals (with_reducible rfl))
    try simp only [Act.put, List.setIfInBounds_toArray, List.set_cons_zero, List.set_cons_succ]
    refine lets_take (i := 18) (d := 31) (v := ?_) rfl rfl (by kernel_rfl) (by kernel_rfl) (by kernel_rfl) (by kernel_rfl) (fun _ _ _ h => h) (Or.inl ⟨by rfl, ?_⟩) hHeld ?_
    rotate_left
    · (intro w hSw; (try dsimp only at hSw); go_simp; all_goals (with_reducible rfl))
    try simp only [Act.put, List.setIfInBounds_toArray, List.set_cons_zero, List.set_cons_succ]
    refine lets_take (i := 20) (d := 33) (v := ?_) rfl rfl (by kernel_rfl) (by kernel_rfl) (by kernel_rfl) (by kernel_rfl) (fun _ _ _ h => h) (Or.inl ⟨by rfl, ?_⟩) hHeld ?_
    rotate_left
    · (intro w hSw; (try dsimp only at hSw); go_simp; all_goals (with_reducible rfl))
    try simp only [Act.put, List.setIfInBounds_toArray, List.set_cons_zero, List.set_cons_succ]
    refine lets_take (i := 21) (d := 34) (v := ?_) rfl rfl (by kernel_rfl) (by kernel_rfl) (by kernel_rfl) (by kernel_rfl) (fun _ _ _ h => h) (Or.inl ⟨by rfl, ?_⟩) hHeld ?_
    rotate_left
    · (intro w hSw; (try dsimp only at hSw); go_simp; all_goals (with_reducible rfl))
    try simp only [Act.put, List.setIfInBounds_toArray, List.set_cons_zero, List.set_cons_succ]
    clear c1 c2 c3 c4 c5
    have d0 : Below w0.heap.size w0 w1.drew := HB1.out.drew
    have hs0 := HB1.out.size
    have q1 := few_any ra rn rc R w1.drew (HRD.out.later d0)
    refine lets_one (i := 7) (by kernel_rfl) rfl (fun K hK => ?_)
    go_simp
    refine q1.mono ?_
    rintro e w2 ⟨⟨v2, rfl, hv2⟩, hb2⟩
    have b2 : Below w1.heap.size w1 w2 := (Below.refl _ w1).drew.trans hb2
    obtain ⟨ra2, rc2, rfl, -⟩ := hv2.slice
    have B2 : Below w0.heap.size w0 w2 := HB1.out.trans (b2.mono HB1.out.size)
    have HN2 : Hid (w2.heap[w.heap.size]? = some (.cells #[.int .i64 1, .int .i64 id.1, .int .u64 id.2, .int .i64 a, .slice ra rn rc, .slice wa wn wc] 34)) := (b2.block _ (Array.getElem?_eq_some_iff.1 HN.out).1).trans HN.out
    have k2 : w2.cell? ⟨w.heap.size, 1, none⟩ = some (.int .i64 id.1) ∧ w2.cell? ⟨w.heap.size, 2, none⟩ = some (.int .u64 id.2) ∧ w2.cell? ⟨w.heap.size, 3, none⟩ = some (.int .i64 a) ∧ w2.cell? ⟨w.heap.size, 4, none⟩ = some (.slice ra rn rc) ∧ w2.cell? ⟨w.heap.size, 5, none⟩ = some (.slice wa wn wc) := ⟨cell_of_heap HN2.out rfl, cell_of_heap HN2.out rfl, cell_of_heap HN2.out rfl, cell_of_heap HN2.out rfl, cell_of_heap HN2.out rfl⟩
    go_wp2_with fail
    refine hK.out _ _ ?_ (fun hHeld => ?_)
    · exact fun _ => k2
    replace hHeld := hHeld (by decide)
    clear hK K
    try simp only [Act.put, List.setIfInBounds_toArray, List.set_cons_zero, List.set_cons_succ]
    clear q1 k2
    have q1 := few_any wa wn wc W w2 (HWR.out.later B2)
    refine lets_one (i := 10) (by kernel_rfl) rfl (fun K hK => ?_)
    go_simp
    refine q1.mono ?_
    rintro e w3 ⟨⟨v3, rfl, hv3⟩, hb3⟩
    obtain ⟨wa3, wc3, rfl, -⟩ := hv3.slice
    have B3 : Below w0.heap.size w0 w3 := B2.trans (hb3.mono B2.size)
    have b13 : Below w1.heap.size w1 w3 := b2.trans (hb3.mono b2.size)
    have HN3 : Hid (w3.heap[w.heap.size]? = some (.cells #[.int .i64 1, .int .i64 id.1, .int .u64 id.2, .int .i64 a, .slice ra rn rc, .slice wa wn wc] 34)) := (hb3.block _ (Array.getElem?_eq_some_iff.1 HN2.out).1).trans HN2.out
    have k3 : w3.cell? ⟨w.heap.size, 1, none⟩ = some (.int .i64 id.1) ∧ w3.cell? ⟨w.heap.size, 2, none⟩ = some (.int .u64 id.2) ∧ w3.cell? ⟨w.heap.size, 3, none⟩ = some (.int .i64 a) ∧ w3.cell? ⟨w.heap.size, 4, none⟩ = some (.slice ra rn rc) ∧ w3.cell? ⟨w.heap.size, 5, none⟩ = some (.slice wa wn wc) := ⟨cell_of_heap HN3.out rfl, cell_of_heap HN3.out rfl, cell_of_heap HN3.out rfl, cell_of_heap HN3.out rfl, cell_of_heap HN3.out rfl⟩
    go_wp2_with fail
    refine hK.out _ _ ?_ (fun hHeld => ?_)
    · exact fun _ => k3
    replace hHeld := hHeld (by decide)
    clear hK K
    try simp only [Act.put, List.setIfInBounds_toArray, List.set_cons_zero, List.set_cons_succ]
    have hv23 := hv2.later hb3
    clear q1 k3
    have HB3 : Hid (Both w3 w0.heap.size gt gr c G F last) := HBO.out.later b13
    have q1 := take_any w0.heap.size gt (heldG G) F last id a _ _ _ _ w3 HB3.out.t hv23 hv3 h1000 B3.size
    refine lets_one (i := 11) (by kernel_rfl) rfl (fun K hK => ?_)
    go_simp
    refine q1.mono ?_
    rintro e w4 ⟨rfl, hT4, hF4⟩
    have B4 : Below w0.heap.size w0 w4 := B3.trans (hF4.below B3.size)
    have HN4 : Hid (w4.heap[w.heap.size]? = some (.cells #[.int .i64 1, .int .i64 id.1, .int .u64 id.2, .int .i64 a, .slice ra rn rc, .slice wa wn wc] 34)) := hF4.cells HN3.out (by simp)
    have k4 : w4.cell? ⟨w.heap.size, 1, none⟩ = some (.int .i64 id.1) ∧ w4.cell? ⟨w.heap.size, 2, none⟩ = some (.int .u64 id.2) ∧ w4.cell? ⟨w.heap.size, 3, none⟩ = some (.int .i64 a) ∧ w4.cell? ⟨w.heap.size, 4, none⟩ = some (.slice ra rn rc) ∧ w4.cell? ⟨w.heap.size, 5, none⟩ = some (.slice wa wn wc) := ⟨cell_of_heap HN4.out rfl, cell_of_heap HN4.out rfl, cell_of_heap HN4.out rfl, cell_of_heap HN4.out rfl, cell_of_heap HN4.out rfl⟩
    go_wp2_with fail
    refine hK.out _ _ ?_ (fun hHeld => ?_)
    · exact fun _ => k4
    replace hHeld := hHeld (by decide)
    clear hK K
    try simp only [Act.put, List.setIfInBounds_toArray, List.set_cons_zero, List.set_cons_succ]
    have HT4 : Hid (Taken w4 w0.heap.size gt (heldG G) F last id a (fewL rn R) (fewL wn W)) := hT4
    have HF4 : Hid (Fr w0.heap.size [54, 58] w3 w4) := hF4
    clear q1 k4 hT4 hF4
    have q1 := few_any ra rn rc R w4 (HRD.out.later B4)
    refine lets_one (i := 19) (by kernel_rfl) rfl (fun K hK => ?_)
    go_simp
    refine q1.mono ?_
    rintro e w5 ⟨⟨v5, rfl, hv5⟩, hb5⟩
    obtain ⟨ra5, rc5, rfl, -⟩ := hv5.slice
    have B5 : Below w0.heap.size w0 w5 := B4.trans (hb5.mono B4.size)
    have HN5 : Hid (w5.heap[w.heap.size]? = some (.cells #[.int .i64 1, .int .i64 id.1, .int .u64 id.2, .int .i64 a, .slice ra rn rc, .slice wa wn wc] 34)) := (hb5.block _ (Array.getElem?_eq_some_iff.1 HN4.out).1).trans HN4.out
    have k5 : w5.cell? ⟨w.heap.size, 1, none⟩ = some (.int .i64 id.1) ∧ w5.cell? ⟨w.heap.size, 2, none⟩ = some (.int .u64 id.2) ∧ w5.cell? ⟨w.heap.size, 3, none⟩ = some (.int .i64 a) ∧ w5.cell? ⟨w.heap.size, 4, none⟩ = some (.slice ra rn rc) ∧ w5.cell? ⟨w.heap.size, 5, none⟩ = some (.slice wa wn wc) := ⟨cell_of_heap HN5.out rfl, cell_of_heap HN5.out rfl, cell_of_heap HN5.out rfl, cell_of_heap HN5.out rfl, cell_of_heap HN5.out rfl⟩
    go_wp2_with fail
    refine hK.out _ _ ?_ (fun hHeld => ?_)
    · exact fun _ => k5
    replace hHeld := hHeld (by decide)
    clear hK K
    try simp only [Act.put, List.setIfInBounds_toArray, List.set_cons_zero, List.set_cons_succ]
    clear q1 k5
    have q1 := few_any wa wn wc W w5 (HWR.out.later B5)
    refine lets_one (i := 22) (by kernel_rfl) rfl (fun K hK => ?_)
    go_simp
    refine q1.mono ?_
    rintro e w6 ⟨⟨v6, rfl, hv6⟩, hb6⟩
    obtain ⟨wa6, wc6, rfl, -⟩ := hv6.slice
    have B6 : Below w0.heap.size w0 w6 := B5.trans (hb6.mono B5.size)
    have b46 : Below w4.heap.size w4 w6 := hb5.trans (hb6.mono hb5.size)
    have HN6 : Hid (w6.heap[w.heap.size]? = some (.cells #[.int .i64 1, .int .i64 id.1, .int .u64 id.2, .int .i64 a, .slice ra rn rc, .slice wa wn wc] 34)) := (hb6.block _ (Array.getElem?_eq_some_iff.1 HN5.out).1).trans HN5.out
    have k6 : w6.cell? ⟨w.heap.size, 1, none⟩ = some (.int .i64 id.1) ∧ w6.cell? ⟨w.heap.size, 2, none⟩ = some (.int .u64 id.2) ∧ w6.cell? ⟨w.heap.size, 3, none⟩ = some (.int .i64 a) ∧ w6.cell? ⟨w.heap.size, 4, none⟩ = some (.slice ra rn rc) ∧ w6.cell? ⟨w.heap.size, 5, none⟩ = some (.slice wa wn wc) := ⟨cell_of_heap HN6.out rfl, cell_of_heap HN6.out rfl, cell_of_heap HN6.out rfl, cell_of_heap HN6.out rfl, cell_of_heap HN6.out rfl⟩
    go_wp2_with fail
    refine hK.out _ _ ?_ (fun hHeld => ?_)
    · exact fun _ => k6
    replace hHeld := hHeld (by decide)
    clear hK K
    try simp only [Act.put, List.setIfInBounds_toArray, List.set_cons_zero, List.set_cons_succ]
    have hv56 := hv5.later hb6
    clear q1 k6
    have q1 := rtake_any w0.heap.size gr (rowsG G) last id a _ _ _ _ w6 ((HB3.out.r.fr HF4.out (by simp) (by simp)).later b46) hv56 hv6 hR1000 B6.size
    refine lets_one (i := 23) (by kernel_rfl) rfl (fun K hK => ?_)
    go_simp
    refine q1.mono ?_
    rintro e w7 ⟨rfl, hT7, hF7⟩
    have HN7 : Hid (w7.heap[w.heap.size]? = some (.cells #[.int .i64 1, .int .i64 id.1, .int .u64 id.2, .int .i64 a, .slice ra rn rc, .slice wa wn wc] 34)) := hF7.cells HN6.out (by simp)
    have k7 : w7.cell? ⟨w.heap.size, 1, none⟩ = some (.int .i64 id.1) ∧ w7.cell? ⟨w.heap.size, 2, none⟩ = some (.int .u64 id.2) ∧ w7.cell? ⟨w.heap.size, 3, none⟩ = some (.int .i64 a) ∧ w7.cell? ⟨w.heap.size, 4, none⟩ = some (.slice ra rn rc) ∧ w7.cell? ⟨w.heap.size, 5, none⟩ = some (.slice wa wn wc) := ⟨cell_of_heap HN7.out rfl, cell_of_heap HN7.out rfl, cell_of_heap HN7.out rfl, cell_of_heap HN7.out rfl, cell_of_heap HN7.out rfl⟩
    go_wp2_with fail
    refine hK.out _ _ ?_ (fun hHeld => ?_)
    · exact fun _ => k7
    replace hHeld := hHeld (by decide)
    clear hK K
    try simp only [Act.put, List.setIfInBounds_toArray, List.set_cons_zero, List.set_cons_succ]
    have HFIN : Hid (∃ G' F' last', Both w7 w0.heap.size gt gr (c + 1) G' F' last') := HB3.out.take HT4.out HF4.out b46 hT7 hF7 hv5.few hv6.few
    have HFR : Hid (Fr w0.heap.size [54, 58, 28, 47] w w7) := ((((Fr.of HBX.out).trans (Fr.of b13)).trans (HF4.out.sub (by simp))).trans (Fr.of b46)).trans (hF7.sub (by simp))
    rw [take_rows G F last HB3.out.inv]
    generalize takeE (heldG G) last id a (fewL rn R) (fewL wn W) = res
    clear q1 k7 hT7 hF7 hv5 hv6 hv56 b46 b13 hv2 hv3 hv23 hb2 hb3 hb5 hb6
    refine lets_one (i := 24) (by kernel_rfl) rfl (fun K hK => ?_)
    go_simp
    refine hK.out _ _ ?_ (fun hHeld => ?_)
    · exact fun _ => hHeld
    replace hHeld := hHeld (by decide)
    clear hK K
    try simp only [Act.put, List.setIfInBounds_toArray, List.set_cons_zero, List.set_cons_succ]
    refine lets_one (i := 25) (by kernel_rfl) rfl (fun K hK => ?_)
    go_simp
    refine hK.out _ _ ?_ (fun hHeld => ?_)
    · exact fun h => absurd rfl h
    clear hK K
    try simp only [Act.put, List.setIfInBounds_toArray, List.set_cons_zero, List.set_cons_succ]
    refine lets_done (by kernel_rfl) ?_ _
    refine NoPanic.normal ?_
    go_wp2
    go_ret
    exact ⟨by simp, HFIN.out, HFR.out⟩
  · go_enter Try.func8, Try.ntmps8
    go_upto_region 5 with fail
    clear c0
    generalize w.alloc (.cells #[.int .i64 2, .int .i64 id.1, .int .u64 id.2, .int .i64 a, .slice ra rn rc, .slice wa wn wc] 34) = w1 at *
    have c1 : w1.cell? ⟨w.heap.size, 1, none⟩ = some (.int .i64 id.1) := cell_of_heap HN.out rfl
    have c2 : w1.cell? ⟨w.heap.size, 2, none⟩ = some (.int .u64 id.2) := cell_of_heap HN.out rfl
    have c3 : w1.cell? ⟨w.heap.size, 3, none⟩ = some (.int .i64 a) := cell_of_heap HN.out rfl
    have c4 : w1.cell? ⟨w.heap.size, 4, none⟩ = some (.slice ra rn rc) := cell_of_heap HN.out rfl
    have c5 : w1.cell? ⟨w.heap.size, 5, none⟩ = some (.slice wa wn wc) := cell_of_heap HN.out rfl
    refine wp_region_noPanic ?_
    refine wp_region_lets 25 (fun w' => w'.cell? ⟨w.heap.size, 1, none⟩ = some (.int .i64 id.1) ∧ w'.cell? ⟨w.heap.size, 2, none⟩ = some (.int .u64 id.2) ∧ w'.cell? ⟨w.heap.size, 3, none⟩ = some (.int .i64 a) ∧ w'.cell? ⟨w.heap.size, 4, none⟩ = some (.slice ra rn rc) ∧ w'.cell? ⟨w.heap.size, 5, none⟩ = some (.slice wa wn wc)) (by kernel_rfl) ?_ (fun hHeld => ?_)
    · exact ⟨c1, c2, c3, c4, c5⟩
    refine lets_take (i := 0) (d := 13) (v := ?_) rfl rfl (by kernel_rfl) (by kernel_rfl) (by kernel_rfl) (by kernel_rfl) (fun _ _ _ h => h) (Or.inl ⟨by rfl, ?_⟩) hHeld ?_
    rotate_left
    · (intro w hSw; (try dsimp only at hSw); go_simp; all_goals (with_reducible rfl))
    try simp only [Act.put, List.setIfInBounds_toArray, List.set_cons_zero, List.set_cons_succ]
    refine lets_take (i := 1) (d := 14) (v := ?_) rfl rfl (by kernel_rfl) (by kernel_rfl) (by kernel_rfl) (by kernel_rfl) (fun _ _ _ h => h) (Or.inl ⟨by rfl, ?_⟩) hHeld ?_
    rotate_left
    · (intro w hSw; (try dsimp only at hSw); go_simp; all_goals (with_reducible rfl))
    try simp only [Act.put, List.setIfInBounds_toArray, List.set_cons_zero, List.set_cons_succ]
    refine lets_take (i := 2) (d := 15) (v := ?_) rfl rfl (by kernel_rfl) (by kernel_rfl) (by kernel_rfl) (by kernel_rfl) (fun _ _ _ h => h) (Or.inl ⟨by rfl, ?_⟩) hHeld ?_
    rotate_left
    · (intro w hSw; (try dsimp only at hSw); go_simp; all_goals (with_reducible rfl))
    try simp only [Act.put, List.setIfInBounds_toArray, List.set_cons_zero, List.set_cons_succ]
    refine lets_take (i := 3) (d := 16) (v := ?_) rfl rfl (by kernel_rfl) (by kernel_rfl) (by kernel_rfl) (by kernel_rfl) (fun _ _ _ h => h) (Or.inl ⟨by rfl, ?_⟩) hHeld ?_
    rotate_left
    · (intro w hSw; (try dsimp only at hSw); go_simp; all_goals (with_reducible rfl))
    try simp only [Act.put, List.setIfInBounds_toArray, List.set_cons_zero, List.set_cons_succ]
    refine lets_take (i := 4) (d := 17) (v := ?_) rfl rfl (by kernel_rfl) (by kernel_rfl) (by kernel_rfl) (by kernel_rfl) (fun _ _ _ h => h) (Or.inl ⟨by rfl, ?_⟩) hHeld ?_
    rotate_left
    · (intro w hSw; (try dsimp only at hSw); go_simp; all_goals (with_reducible rfl))
    try simp only [Act.put, List.setIfInBounds_toArray, List.set_cons_zero, List.set_cons_succ]
    refine lets_take (i := 5) (d := 18) (v := ?_) rfl rfl (by kernel_rfl) (by kernel_rfl) (by kernel_rfl) (by kernel_rfl) (fun _ _ _ h => h) (Or.inl ⟨by rfl, ?_⟩) hHeld ?_
    rotate_left
    · (intro w hSw; (try dsimp only at hSw); go_simp; all_goals (with_reducible rfl))
    try simp only [Act.put, List.setIfInBounds_toArray, List.set_cons_zero, List.set_cons_succ]
    refine lets_take (i := 6) (d := 19) (v := ?_) rfl rfl (by kernel_rfl) (by kernel_rfl) (by kernel_rfl) (by kernel_rfl) (fun _ _ _ h => h) (Or.inl ⟨by rfl, ?_⟩) hHeld ?_
    rotate_left
    · (intro w hSw; (try dsimp only at hSw); go_simp; all_goals (with_reducible rfl))
    try simp only [Act.put, List.setIfInBounds_toArray, List.set_cons_zero, List.set_cons_succ]
    refine lets_take (i := 8) (d := 21) (v := ?_) rfl rfl (by kernel_rfl) (by kernel_rfl) (by kernel_rfl) (by kernel_rfl) (fun _ _ _ h => h) (Or.inl ⟨by rfl, ?_⟩) hHeld ?_
    rotate_left
    · (intro w hSw; (try dsimp only at hSw); go_simp; all_goals (with_reducible rfl))
    try simp only [Act.put, List.setIfInBounds_toArray, List.set_cons_zero, List.set_cons_succ]
    refine lets_take (i := 9) (d := 22) (v := ?_) rfl rfl (by kernel_rfl) (by kernel_rfl) (by kernel_rfl) (by kernel_rfl) (fun _ _ _ h => h) (Or.inl ⟨by rfl, ?_⟩) hHeld ?_
    rotate_left
    · (intro w hSw; (try dsimp only at hSw); go_simp; all_goals (with_reducible rfl))
    try simp only [Act.put, List.setIfInBounds_toArray, List.set_cons_zero, List.set_cons_succ]
    refine lets_take (i := 12) (d := 25) (v := ?_) rfl rfl (by kernel_rfl) (by kernel_rfl) (by kernel_rfl) (by kernel_rfl) (fun _ _ _ h => h) (Or.inl ⟨by rfl, ?_⟩) hHeld ?_
    rotate_left
    · (intro w hSw; (try dsimp only at hSw); go_simp; all_goals (with_reducible rfl))
    try simp only [Act.put, List.setIfInBounds_toArray, List.set_cons_zero, List.set_cons_succ]
    refine lets_take (i := 13) (d := 26) (v := ?_) rfl rfl (by kernel_rfl) (by kernel_rfl) (by kernel_rfl) (by kernel_rfl) (fun _ _ _ h => h) (Or.inl ⟨by rfl, ?_⟩) hHeld ?_
    rotate_left
    · (intro w hSw; (try dsimp only at hSw); go_simp; all_goals (with_reducible rfl))
    try simp only [Act.put, List.setIfInBounds_toArray, List.set_cons_zero, List.set_cons_succ]
    refine lets_take (i := 14) (d := 27) (v := ?_) rfl rfl (by kernel_rfl) (by kernel_rfl) (by kernel_rfl) (by kernel_rfl) (fun _ _ _ h => h) (Or.inl ⟨by rfl, ?_⟩) hHeld ?_
    rotate_left
    · (intro w hSw; (try dsimp only at hSw); go_simp; all_goals (with_reducible rfl))
    try simp only [Act.put, List.setIfInBounds_toArray, List.set_cons_zero, List.set_cons_succ]
    refine lets_take (i := 15) (d := 28) (v := ?_) rfl rfl (by kernel_rfl) (by kernel_rfl) (by kernel_rfl) (by kernel_rfl) (fun _ _ _ h => h) (Or.inl ⟨by rfl, ?_⟩) hHeld ?_
    rotate_left
    · (intro w hSw; (try dsimp only at hSw); go_simp; all_goals (with_reducible rfl))
    try simp only [Act.put, List.setIfInBounds_toArray, List.set_cons_zero, List.set_cons_succ]
    refine lets_take (i := 16) (d := 29) (v := ?_) rfl rfl (by kernel_rfl) (by kernel_rfl) (by kernel_rfl) (by kernel_rfl) (fun _ _ _ h => h) (Or.inl ⟨by rfl, ?_⟩) hHeld ?_
    rotate_left
    · (intro w hSw; (try dsimp only at hSw); go_simp; all_goals (with_reducible rfl))
    try simp only [Act.put, List.setIfInBounds_toArray, List.set_cons_zero, List.set_cons_succ]
    refine lets_take (i := 17) (d := 30) (v := ?_) rfl rfl (by kernel_rfl) (by kernel_rfl) (by kernel_rfl) (by kernel_rfl) (fun _ _ _ h => h) (Or.inl ⟨by rfl, ?_⟩) hHeld ?_
    rotate_left
    · (intro w hSw; (try dsimp only at hSw); go_simp; all_goals (with_reducible rfl))
    try simp only [Act.put, List.setIfInBounds_toArray, List.set_cons_zero, List.set_cons_succ]
    refine lets_take (i := 18) (d := 31) (v := ?_) rfl rfl (by kernel_rfl) (by kernel_rfl) (by kernel_rfl) (by kernel_rfl) (fun _ _ _ h => h) (Or.inl ⟨by rfl, ?_⟩) hHeld ?_
    rotate_left
    · (intro w hSw; (try dsimp only at hSw); go_simp; all_goals (with_reducible rfl))
    try simp only [Act.put, List.setIfInBounds_toArray, List.set_cons_zero, List.set_cons_succ]
    refine lets_take (i := 20) (d := 33) (v := ?_) rfl rfl (by kernel_rfl) (by kernel_rfl) (by kernel_rfl) (by kernel_rfl) (fun _ _ _ h => h) (Or.inl ⟨by rfl, ?_⟩) hHeld ?_
    rotate_left
    · (intro w hSw; (try dsimp only at hSw); go_simp; all_goals (with_reducible rfl))
    try simp only [Act.put, List.setIfInBounds_toArray, List.set_cons_zero, List.set_cons_succ]
    refine lets_take (i := 21) (d := 34) (v := ?_) rfl rfl (by kernel_rfl) (by kernel_rfl) (by kernel_rfl) (by kernel_rfl) (fun _ _ _ h => h) (Or.inl ⟨by rfl, ?_⟩) hHeld ?_
    rotate_left
    · (intro w hSw; (try dsimp only at hSw); go_simp; all_goals (with_reducible rfl))
    try simp only [Act.put, List.setIfInBounds_toArray, List.set_cons_zero, List.set_cons_succ]
    clear c1 c2 c3 c4 c5
    have d0 : Below w0.heap.size w0 w1.drew := HB1.out.drew
    have hs0 := HB1.out.size
    have q1 := few_any ra rn rc R w1.drew (HRD.out.later d0)
    refine lets_one (i := 7) (by kernel_rfl) rfl (fun K hK => ?_)
    go_simp
    refine q1.mono ?_
    rintro e w2 ⟨⟨v2, rfl, hv2⟩, hb2⟩
    have b2 : Below w1.heap.size w1 w2 := (Below.refl _ w1).drew.trans hb2
    obtain ⟨ra2, rc2, rfl, -⟩ := hv2.slice
    have B2 : Below w0.heap.size w0 w2 := HB1.out.trans (b2.mono HB1.out.size)
    have HN2 : Hid (w2.heap[w.heap.size]? = some (.cells #[.int .i64 2, .int .i64 id.1, .int .u64 id.2, .int .i64 a, .slice ra rn rc, .slice wa wn wc] 34)) := (b2.block _ (Array.getElem?_eq_some_iff.1 HN.out).1).trans HN.out
    have k2 : w2.cell? ⟨w.heap.size, 1, none⟩ = some (.int .i64 id.1) ∧ w2.cell? ⟨w.heap.size, 2, none⟩ = some (.int .u64 id.2) ∧ w2.cell? ⟨w.heap.size, 3, none⟩ = some (.int .i64 a) ∧ w2.cell? ⟨w.heap.size, 4, none⟩ = some (.slice ra rn rc) ∧ w2.cell? ⟨w.heap.size, 5, none⟩ = some (.slice wa wn wc) := ⟨cell_of_heap HN2.out rfl, cell_of_heap HN2.out rfl, cell_of_heap HN2.out rfl, cell_of_heap HN2.out rfl, cell_of_heap HN2.out rfl⟩
    go_wp2_with fail
    refine hK.out _ _ ?_ (fun hHeld => ?_)
    · exact fun _ => k2
    replace hHeld := hHeld (by decide)
    clear hK K
    try simp only [Act.put, List.setIfInBounds_toArray, List.set_cons_zero, List.set_cons_succ]
    clear q1 k2
    have q1 := few_any wa wn wc W w2 (HWR.out.later B2)
    refine lets_one (i := 10) (by kernel_rfl) rfl (fun K hK => ?_)
    go_simp
    refine q1.mono ?_
    rintro e w3 ⟨⟨v3, rfl, hv3⟩, hb3⟩
    obtain ⟨wa3, wc3, rfl, -⟩ := hv3.slice
    have B3 : Below w0.heap.size w0 w3 := B2.trans (hb3.mono B2.size)
    have b13 : Below w1.heap.size w1 w3 := b2.trans (hb3.mono b2.size)
    have HN3 : Hid (w3.heap[w.heap.size]? = some (.cells #[.int .i64 2, .int .i64 id.1, .int .u64 id.2, .int .i64 a, .slice ra rn rc, .slice wa wn wc] 34)) := (hb3.block _ (Array.getElem?_eq_some_iff.1 HN2.out).1).trans HN2.out
    have k3 : w3.cell? ⟨w.heap.size, 1, none⟩ = some (.int .i64 id.1) ∧ w3.cell? ⟨w.heap.size, 2, none⟩ = some (.int .u64 id.2) ∧ w3.cell? ⟨w.heap.size, 3, none⟩ = some (.int .i64 a) ∧ w3.cell? ⟨w.heap.size, 4, none⟩ = some (.slice ra rn rc) ∧ w3.cell? ⟨w.heap.size, 5, none⟩ = some (.slice wa wn wc) := ⟨cell_of_heap HN3.out rfl, cell_of_heap HN3.out rfl, cell_of_heap HN3.out rfl, cell_of_heap HN3.out rfl, cell_of_heap HN3.out rfl⟩
    go_wp2_with fail
    refine hK.out _ _ ?_ (fun hHeld => ?_)
    · exact fun _ => k3
    replace hHeld := hHeld (by decide)
    clear hK K
    try simp only [Act.put, List.setIfInBounds_toArray, List.set_cons_zero, List.set_cons_succ]
    have hv23 := hv2.later hb3
    clear q1 k3
    have HB3 : Hid (Both w3 w0.heap.size gt gr c G F last) := HBO.out.later b13
    have q1 := take_any w0.heap.size gt (heldG G) F last id a _ _ _ _ w3 HB3.out.t hv23 hv3 h1000 B3.size
    refine lets_one (i := 11) (by kernel_rfl) rfl (fun K hK => ?_)
    go_simp
    refine q1.mono ?_
    rintro e w4 ⟨rfl, hT4, hF4⟩
    have B4 : Below w0.heap.size w0 w4 := B3.trans (hF4.below B3.size)
    have HN4 : Hid (w4.heap[w.heap.size]? = some (.cells #[.int .i64 2, .int .i64 id.1, .int .u64 id.2, .int .i64 a, .slice ra rn rc, .slice wa wn wc] 34)) := hF4.cells HN3.out (by simp)
    have k4 : w4.cell? ⟨w.heap.size, 1, none⟩ = some (.int .i64 id.1) ∧ w4.cell? ⟨w.heap.size, 2, none⟩ = some (.int .u64 id.2) ∧ w4.cell? ⟨w.heap.size, 3, none⟩ = some (.int .i64 a) ∧ w4.cell? ⟨w.heap.size, 4, none⟩ = some (.slice ra rn rc) ∧ w4.cell? ⟨w.heap.size, 5, none⟩ = some (.slice wa wn wc) := ⟨cell_of_heap HN4.out rfl, cell_of_heap HN4.out rfl, cell_of_heap HN4.out rfl, cell_of_heap HN4.out rfl, cell_of_heap HN4.out rfl⟩
    go_wp2_with fail
    refine hK.out _ _ ?_ (fun hHeld => ?_)
    · exact fun _ => k4
    replace hHeld := hHeld (by decide)
    clear hK K
    try simp only [Act.put, List.setIfInBounds_toArray, List.set_cons_zero, List.set_cons_succ]
    have HT4 : Hid (Taken w4 w0.heap.size gt (heldG G) F last id a (fewL rn R) (fewL wn W)) := hT4
    have HF4 : Hid (Fr w0.heap.size [54, 58] w3 w4) := hF4
    clear q1 k4 hT4 hF4
    have q1 := few_any ra rn rc R w4 (HRD.out.later B4)
    refine lets_one (i := 19) (by kernel_rfl) rfl (fun K hK => ?_)
    go_simp
    refine q1.mono ?_
    rintro e w5 ⟨⟨v5, rfl, hv5⟩, hb5⟩
    obtain ⟨ra5, rc5, rfl, -⟩ := hv5.slice
    have B5 : Below w0.heap.size w0 w5 := B4.trans (hb5.mono B4.size)
    have HN5 : Hid (w5.heap[w.heap.size]? = some (.cells #[.int .i64 2, .int .i64 id.1, .int .u64 id.2, .int .i64 a, .slice ra rn rc, .slice wa wn wc] 34)) := (hb5.block _ (Array.getElem?_eq_some_iff.1 HN4.out).1).trans HN4.out
    have k5 : w5.cell? ⟨w.heap.size, 1, none⟩ = some (.int .i64 id.1) ∧ w5.cell? ⟨w.heap.size, 2, none⟩ = some (.int .u64 id.2) ∧ w5.cell? ⟨w.heap.size, 3, none⟩ = some (.int .i64 a) ∧ w5.cell? ⟨w.heap.size, 4, none⟩ = some (.slice ra rn rc) ∧ w5.cell? ⟨w.heap.size, 5, none⟩ = some (.slice wa wn wc) := ⟨cell_of_heap HN5.out rfl, cell_of_heap HN5.out rfl, cell_of_heap HN5.out rfl, cell_of_heap HN5.out rfl, cell_of_heap HN5.out rfl⟩
    go_wp2_with fail
    refine hK.out _ _ ?_ (fun hHeld => ?_)
    · exact fun _ => k5
    replace hHeld := hHeld (by decide)
    clear hK K
    try simp only [Act.put, List.setIfInBounds_toArray, List.set_cons_zero, List.set_cons_succ]
    clear q1 k5
    have q1 := few_any wa wn wc W w5 (HWR.out.later B5)
    refine lets_one (i := 22) (by kernel_rfl) rfl (fun K hK => ?_)
    go_simp
    refine q1.mono ?_
    rintro e w6 ⟨⟨v6, rfl, hv6⟩, hb6⟩
    obtain ⟨wa6, wc6, rfl, -⟩ := hv6.slice
    have B6 : Below w0.heap.size w0 w6 := B5.trans (hb6.mono B5.size)
    have b46 : Below w4.heap.size w4 w6 := hb5.trans (hb6.mono hb5.size)
    have HN6 : Hid (w6.heap[w.heap.size]? = some (.cells #[.int .i64 2, .int .i64 id.1, .int .u64 id.2, .int .i64 a, .slice ra rn rc, .slice wa wn wc] 34)) := (hb6.block _ (Array.getElem?_eq_some_iff.1 HN5.out).1).trans HN5.out
    have k6 : w6.cell? ⟨w.heap.size, 1, none⟩ = some (.int .i64 id.1) ∧ w6.cell? ⟨w.heap.size, 2, none⟩ = some (.int .u64 id.2) ∧ w6.cell? ⟨w.heap.size, 3, none⟩ = some (.int .i64 a) ∧ w6.cell? ⟨w.heap.size, 4, none⟩ = some (.slice ra rn rc) ∧ w6.cell? ⟨w.heap.size, 5, none⟩ = some (.slice wa wn wc) := ⟨cell_of_heap HN6.out rfl, cell_of_heap HN6.out rfl, cell_of_heap HN6.out rfl, cell_of_heap HN6.out rfl, cell_of_heap HN6.out rfl⟩
    go_wp2_with fail
    refine hK.out _ _ ?_ (fun hHeld => ?_)
    · exact fun _ => k6
    replace hHeld := hHeld (by decide)
    clear hK K
    try simp only [Act.put, List.setIfInBounds_toArray, List.set_cons_zero, List.set_cons_succ]
    have hv56 := hv5.later hb6
    clear q1 k6
    have q1 := rtake_any w0.heap.size gr (rowsG G) last id a _ _ _ _ w6 ((HB3.out.r.fr HF4.out (by simp) (by simp)).later b46) hv56 hv6 hR1000 B6.size
    refine lets_one (i := 23) (by kernel_rfl) rfl (fun K hK => ?_)
    go_simp
    refine q1.mono ?_
    rintro e w7 ⟨rfl, hT7, hF7⟩
    have HN7 : Hid (w7.heap[w.heap.size]? = some (.cells #[.int .i64 2, .int .i64 id.1, .int .u64 id.2, .int .i64 a, .slice ra rn rc, .slice wa wn wc] 34)) := hF7.cells HN6.out (by simp)
    have k7 : w7.cell? ⟨w.heap.size, 1, none⟩ = some (.int .i64 id.1) ∧ w7.cell? ⟨w.heap.size, 2, none⟩ = some (.int .u64 id.2) ∧ w7.cell? ⟨w.heap.size, 3, none⟩ = some (.int .i64 a) ∧ w7.cell? ⟨w.heap.size, 4, none⟩ = some (.slice ra rn rc) ∧ w7.cell? ⟨w.heap.size, 5, none⟩ = some (.slice wa wn wc) := ⟨cell_of_heap HN7.out rfl, cell_of_heap HN7.out rfl, cell_of_heap HN7.out rfl, cell_of_heap HN7.out rfl, cell_of_heap HN7.out rfl⟩
    go_wp2_with fail
    refine hK.out _ _ ?_ (fun hHeld => ?_)
    · exact fun _ => k7
    replace hHeld := hHeld (by decide)
    clear hK K
    try simp only [Act.put, List.setIfInBounds_toArray, List.set_cons_zero, List.set_cons_succ]
    have HFIN : Hid (∃ G' F' last', Both w7 w0.heap.size gt gr (c + 1) G' F' last') := HB3.out.take HT4.out HF4.out b46 hT7 hF7 hv5.few hv6.few
    have HFR : Hid (Fr w0.heap.size [54, 58, 28, 47] w w7) := ((((Fr.of HBX.out).trans (Fr.of b13)).trans (HF4.out.sub (by simp))).trans (Fr.of b46)).trans (hF7.sub (by simp))
    rw [take_rows G F last HB3.out.inv]
    generalize takeE (heldG G) last id a (fewL rn R) (fewL wn W) = res
    clear q1 k7 hT7 hF7 hv5 hv6 hv56 b46 b13 hv2 hv3 hv23 hb2 hb3 hb5 hb6
    refine lets_one (i := 24) (by kernel_rfl) rfl (fun K hK => ?_)
    go_simp
    refine hK.out _ _ ?_ (fun hHeld => ?_)
    · exact fun _ => hHeld
    replace hHeld := hHeld (by decide)
    clear hK K
    try simp only [Act.put, List.setIfInBounds_toArray, List.set_cons_zero, List.set_cons_succ]
    refine lets_one (i := 25) (by kernel_rfl) rfl (fun K hK => ?_)
    go_simp
    refine hK.out _ _ ?_ (fun hHeld => ?_)
    · exact fun h => absurd rfl h
    clear hK K
    try simp only [Act.put, List.setIfInBounds_toArray, List.set_cons_zero, List.set_cons_succ]
    refine lets_done (by kernel_rfl) ?_ _
    refine NoPanic.normal ?_
    go_wp2
    go_ret
    exact ⟨by simp, HFIN.out, HFR.out⟩
  · go_enter Try.func8, Try.ntmps8
    go_upto_region 7 with fail
    clear c0
    generalize w.alloc (.cells #[.int .i64 3, .int .i64 id.1, .int .u64 id.2, .int .i64 a, .slice ra rn rc, .slice wa wn wc] 34) = w1 at *
    have c1 : w1.cell? ⟨w.heap.size, 1, none⟩ = some (.int .i64 id.1) := cell_of_heap HN.out rfl
    have c2 : w1.cell? ⟨w.heap.size, 2, none⟩ = some (.int .u64 id.2) := cell_of_heap HN.out rfl
    have c3 : w1.cell? ⟨w.heap.size, 3, none⟩ = some (.int .i64 a) := cell_of_heap HN.out rfl
    refine wp_region_noPanic ?_
    refine wp_region_lets 13 (fun w' => w'.cell? ⟨w.heap.size, 1, none⟩ = some (.int .i64 id.1) ∧ w'.cell? ⟨w.heap.size, 2, none⟩ = some (.int .u64 id.2) ∧ w'.cell? ⟨w.heap.size, 3, none⟩ = some (.int .i64 a)) (by kernel_rfl) ?_ (fun hHeld => ?_)
    · exact ⟨c1, c2, c3⟩
    refine lets_take (i := 0) (d := 40) (v := ?_) rfl rfl (by kernel_rfl) (by kernel_rfl) (by kernel_rfl) (by kernel_rfl) (fun _ _ _ h => h) (Or.inl ⟨by rfl, ?_⟩) hHeld ?_
    rotate_left
    · (intro w hSw; (try dsimp only at hSw); go_simp; all_goals (with_reducible rfl))
    try simp only [Act.put, List.setIfInBounds_toArray, List.set_cons_zero, List.set_cons_succ]
    refine lets_take (i := 1) (d := 41) (v := ?_) rfl rfl (by kernel_rfl) (by kernel_rfl) (by kernel_rfl) (by kernel_rfl) (fun _ _ _ h => h) (Or.inl ⟨by rfl, ?_⟩) hHeld ?_
    rotate_left
    · (intro w hSw; (try dsimp only at hSw); go_simp; all_goals (with_reducible rfl))
    try simp only [Act.put, List.setIfInBounds_toArray, List.set_cons_zero, List.set_cons_succ]
    refine lets_take (i := 2) (d := 42) (v := ?_) rfl rfl (by kernel_rfl) (by kernel_rfl) (by kernel_rfl) (by kernel_rfl) (fun _ _ _ h => h) (Or.inl ⟨by rfl, ?_⟩) hHeld ?_
    rotate_left
    · (intro w hSw; (try dsimp only at hSw); go_simp; all_goals (with_reducible rfl))
    try simp only [Act.put, List.setIfInBounds_toArray, List.set_cons_zero, List.set_cons_succ]
    refine lets_take (i := 3) (d := 43) (v := ?_) rfl rfl (by kernel_rfl) (by kernel_rfl) (by kernel_rfl) (by kernel_rfl) (fun _ _ _ h => h) (Or.inl ⟨by rfl, ?_⟩) hHeld ?_
    rotate_left
    · (intro w hSw; (try dsimp only at hSw); go_simp; all_goals (with_reducible rfl))
    try simp only [Act.put, List.setIfInBounds_toArray, List.set_cons_zero, List.set_cons_succ]
    refine lets_take (i := 4) (d := 44) (v := ?_) rfl rfl (by kernel_rfl) (by kernel_rfl) (by kernel_rfl) (by kernel_rfl) (fun _ _ _ h => h) (Or.inl ⟨by rfl, ?_⟩) hHeld ?_
    rotate_left
    · (intro w hSw; (try dsimp only at hSw); go_simp; all_goals (with_reducible rfl))
    try simp only [Act.put, List.setIfInBounds_toArray, List.set_cons_zero, List.set_cons_succ]
    refine lets_take (i := 6) (d := 46) (v := ?_) rfl rfl (by kernel_rfl) (by kernel_rfl) (by kernel_rfl) (by kernel_rfl) (fun _ _ _ h => h) (Or.inl ⟨by rfl, ?_⟩) hHeld ?_
    rotate_left
    · (intro w hSw; (try dsimp only at hSw); go_simp; all_goals (with_reducible rfl))
    try simp only [Act.put, List.setIfInBounds_toArray, List.set_cons_zero, List.set_cons_succ]
    refine lets_take (i := 7) (d := 47) (v := ?_) rfl rfl (by kernel_rfl) (by kernel_rfl) (by kernel_rfl) (by kernel_rfl) (fun _ _ _ h => h) (Or.inl ⟨by rfl, ?_⟩) hHeld ?_
    rotate_left
    · (intro w hSw; (try dsimp only at hSw); go_simp; all_goals (with_reducible rfl))
    try simp only [Act.put, List.setIfInBounds_toArray, List.set_cons_zero, List.set_cons_succ]
    refine lets_take (i := 8) (d := 48) (v := ?_) rfl rfl (by kernel_rfl) (by kernel_rfl) (by kernel_rfl) (by kernel_rfl) (fun _ _ _ h => h) (Or.inl ⟨by rfl, ?_⟩) hHeld ?_
    rotate_left
    · (intro w hSw; (try dsimp only at hSw); go_simp; all_goals (with_reducible rfl))
    try simp only [Act.put, List.setIfInBounds_toArray, List.set_cons_zero, List.set_cons_succ]
    refine lets_take (i := 9) (d := 49) (v := ?_) rfl rfl (by kernel_rfl) (by kernel_rfl) (by kernel_rfl) (by kernel_rfl) (fun _ _ _ h => h) (Or.inl ⟨by rfl, ?_⟩) hHeld ?_
    rotate_left
    · (intro w hSw; (try dsimp only at hSw); go_simp; all_goals (with_reducible rfl))
    try simp only [Act.put, List.setIfInBounds_toArray, List.set_cons_zero, List.set_cons_succ]
    refine lets_take (i := 10) (d := 50) (v := ?_) rfl rfl (by kernel_rfl) (by kernel_rfl) (by kernel_rfl) (by kernel_rfl) (fun _ _ _ h => h) (Or.inl ⟨by rfl, ?_⟩) hHeld ?_
    rotate_left
    · (intro w hSw; (try dsimp only at hSw); go_simp; all_goals (with_reducible rfl))
    try simp only [Act.put, List.setIfInBounds_toArray, List.set_cons_zero, List.set_cons_succ]
    clear c1 c2 c3
    have d0 : Below w0.heap.size w0 w1.drew := HB1.out.drew
    have hd : Below w1.heap.size w1 w1.drew := (Below.refl _ w1).drew
    have HBD : Hid (Both w1.drew w0.heap.size gt gr c G F last) := HBO.out.later hd
    have HND : Hid (w1.drew.heap[w.heap.size]? = some (.cells #[.int .i64 3, .int .i64 id.1, .int .u64 id.2, .int .i64 a, .slice ra rn rc, .slice wa wn wc] 34)) := HN.out
    have q1 := free_any w0.heap.size gt (heldG G) F last id a w1.drew HBD.out.t h1000 hF1000 d0.size
    refine lets_one (i := 5) (by kernel_rfl) rfl (fun K hK => ?_)
    go_simp
    refine q1.mono ?_
    rintro e w4 ⟨rfl, hT4, hF4⟩
    have B4 : Below w0.heap.size w0 w4 := d0.trans (hF4.below d0.size)
    have HN4 : Hid (w4.heap[w.heap.size]? = some (.cells #[.int .i64 3, .int .i64 id.1, .int .u64 id.2, .int .i64 a, .slice ra rn rc, .slice wa wn wc] 34)) := hF4.cells HND.out (by simp)
    have k4 : w4.cell? ⟨w.heap.size, 1, none⟩ = some (.int .i64 id.1) ∧ w4.cell? ⟨w.heap.size, 2, none⟩ = some (.int .u64 id.2) ∧ w4.cell? ⟨w.heap.size, 3, none⟩ = some (.int .i64 a) := ⟨cell_of_heap HN4.out rfl, cell_of_heap HN4.out rfl, cell_of_heap HN4.out rfl⟩
    go_wp2_with fail
    refine hK.out _ _ ?_ (fun hHeld => ?_)
    · exact fun _ => k4
    replace hHeld := hHeld (by decide)
    clear hK K
    try simp only [Act.put, List.setIfInBounds_toArray, List.set_cons_zero, List.set_cons_succ]
    clear q1 k4
    have q1 := rfree_any w0.heap.size gr (rowsG G) last id a w4 (HBD.out.r.fr hF4 (by simp) (by simp)) hR1000 B4.size
    refine lets_one (i := 11) (by kernel_rfl) rfl (fun K hK => ?_)
    go_simp
    refine q1.mono ?_
    rintro e w7 ⟨rfl, hT7, hF7⟩
    have HN7 : Hid (w7.heap[w.heap.size]? = some (.cells #[.int .i64 3, .int .i64 id.1, .int .u64 id.2, .int .i64 a, .slice ra rn rc, .slice wa wn wc] 34)) := hF7.cells HN4.out (by simp)
    have k7 : w7.cell? ⟨w.heap.size, 1, none⟩ = some (.int .i64 id.1) ∧ w7.cell? ⟨w.heap.size, 2, none⟩ = some (.int .u64 id.2) ∧ w7.cell? ⟨w.heap.size, 3, none⟩ = some (.int .i64 a) := ⟨cell_of_heap HN7.out rfl, cell_of_heap HN7.out rfl, cell_of_heap HN7.out rfl⟩
    go_wp2_with fail
    refine hK.out _ _ ?_ (fun hHeld => ?_)
    · exact fun _ => k7
    replace hHeld := hHeld (by decide)
    clear hK K
    try simp only [Act.put, List.setIfInBounds_toArray, List.set_cons_zero, List.set_cons_succ]
    have HFIN : Hid (∃ G' F' last', Both w7 w0.heap.size gt gr (c + 1) G' F' last') := HBD.out.free hT4 hT7 hF7
    have HFR : Hid (Fr w0.heap.size [54, 58, 28, 47] w w7) := (((Fr.of HBX.out).trans (Fr.of hd)).trans (hF4.sub (by simp))).trans (hF7.sub (by simp))
    rw [free_rows G last]
    generalize freeE (heldG G) last id a = res
    clear q1 k7 hT7 hF7 hT4 hF4 hd
    refine lets_one (i := 12) (by kernel_rfl) rfl (fun K hK => ?_)
    go_simp
    refine hK.out _ _ ?_ (fun hHeld => ?_)
    · exact fun _ => hHeld
    replace hHeld := hHeld (by decide)
    clear hK K
    try simp only [Act.put, List.setIfInBounds_toArray, List.set_cons_zero, List.set_cons_succ]
    refine lets_one (i := 13) (by kernel_rfl) rfl (fun K hK => ?_)
    go_simp
    refine hK.out _ _ ?_ (fun hHeld => ?_)
    · exact fun h => absurd rfl h
    clear hK K
    try simp only [Act.put, List.setIfInBounds_toArray, List.set_cons_zero, List.set_cons_succ]
    refine lets_done (by kernel_rfl) ?_ _
    refine NoPanic.normal ?_
    go_wp2
    go_ret
    exact ⟨by simp, HFIN.out, HFR.out⟩
  · have b0 : (kd == 0) = false := by simp [n0]
    have b1 : (kd == 1) = false := by simp [n1]
    have b2 : (kd == 2) = false := by simp [n2]
    have b3 : (kd == 3) = false := by simp [n3]
    go_enter Try.func8, Try.ntmps8
    go_wp2
    go_ret
    exact ⟨rfl, HG.out, Fr.of HBX.out⟩
end Go.Proofs.Ytbhohedkgeokgaa
