/- Who stands where in a configuration; whether it may be changed. -/
import Derived.Test.YtgpjplpfjghcgaaCoB
namespace Go.Proofs.Ytgpjplpfjghcgaa
open Go Go.RowKit
set_option linter.unusedVariables false
set_option linter.unusedSimpArgs false

theorem Cfr.box {w : World} {v : Value} {c : Cf} (h : Cfr w v c) : ∃ a c1 b c2 w0, v = .agg (carr c.ep c.sh (.slice a c.l.length c1) (.slice b c.l.length c2) c.le) ∧
    w.alloc (.cells (carr c.ep c.sh (.slice a c.l.length c1) (.slice b c.l.length c2) c.le) 29) = w0 ∧ Hid (Below w.heap.size w w0) ∧
    Hid (w0.heap[w.heap.size]? = some (.cells (carr c.ep c.sh (.slice a c.l.length c1) (.slice b c.l.length c2) c.le) 29)) ∧
    Hid (Cfr w0 (.agg (carr c.ep c.sh (.slice a c.l.length c1) (.slice b c.l.length c2) c.le)) c) ∧
    Hid (Vals w0 a c.l.length ((nodes c.l).map (Value.int .i64))) ∧ Hid (Vals w0 b c.l.length (c.l.map mb)) ∧ c.l.length ≤ 100000 := by
  have h' := h
  obtain ⟨a, c1, b, c2, rfl, h1, h2, h3⟩ := h
  have hb : Below w.heap.size w (w.alloc (.cells (carr c.ep c.sh (.slice a c.l.length c1) (.slice b c.l.length c2) c.le) 29)) := (Below.refl _ _).alloc (Nat.le_refl _) _
  exact ⟨a, c1, b, c2, _, rfl, rfl, hb, heap_alloc_new _ _, h'.later hb, by rw [← map_mi]; exact h1.later hb, h2.later hb, h3⟩

set_option maxRecDepth 100000 in
theorem place_any (v : Value) (c : Cf) (x : Int) (w : World) (h : Cfr w v c) :
    Calls Try.prog 9 #[v, .int .i64 x] w fun e w' => e = .returned (.int .i64 (placeC c x)) ∧ Below w.heap.size w w' := by
  have HR : Hid (placeC c x = if rightB c = true then plc (nodes c.l) x else -1) := rfl
  generalize placeC c x = r at *
  obtain ⟨a, c1, b, c2, w0, rfl, hw0, HB0, HN0, HC0, HV0, HW0, hl⟩ := h.box
  have hr := right_any _ _ _ HC0.out
  clear h
  obtain ⟨ep, sh, l, le⟩ := c
  simp only at *
  generalize rightB ⟨ep, sh, l, le⟩ = q at *
  generalize hn : l.length = n at *
  clear hn
  obtain ⟨x0, x1, x2, x3, x4⟩ := five_cells HN0.out
  go_enter Try.func9, Try.ntmps9
  go_wp2_with fail
  refine hr.mono ?_
  clear hr x0 x1 x2 x3 x4
  rintro e w1 ⟨rfl, hb1⟩
  have HB1 : Hid (Below w.heap.size w w1) := HB0.out.trans (hb1.mono HB0.out.size)
  have HN1 : Hid (w1.heap[w.heap.size]? = some (.cells (carr ep sh (.slice a n c1) (.slice b n c2) le) 29)) := heap_kept HN0.out hb1
  have HI := index_any a n c1 (nodes l) x w1 (HV0.out.later hb1) (by omega)
  clear hb1 hw0
  obtain ⟨x0, x1, x2, x3, x4⟩ := five_cells HN1.out
  generalize plc (nodes l) x = p at *
  cases q
  · clear HI
    go_wp2
    go_ret
    exact ⟨ret_int (by rw [HR.out]; simp), HB1.out⟩
  · go_wp2_with (go_at_call 28; refine HI.mono ?_; rintro e w' ⟨rfl, rfl⟩)
    go_ret
    exact ⟨ret_int (by rw [HR.out]; simp), HB1.out⟩

set_option maxRecDepth 100000 in
theorem at_any (v : Value) (c : Cf) (x : Int) (w : World) (h : Cfr w v c) :
    Calls Try.prog 32 #[v, .int .i64 x] w fun e w' => e = .returned (.int .i64 (atC c x)) ∧ Below w.heap.size w w' := by
  have HR : Hid (atC c x = if rightB c = true ∧ 0 ≤ x ∧ x < c.l.length then ((nodes c.l)[x.toNat]?).getD 0 else -1) := rfl
  generalize atC c x = r at *
  obtain ⟨a, c1, b, c2, w0, rfl, hw0, HB0, HN0, HC0, HV0, HW0, hl⟩ := h.box
  have hr := right_any _ _ _ HC0.out
  clear h
  obtain ⟨ep, sh, l, le⟩ := c
  simp only at *
  generalize rightB ⟨ep, sh, l, le⟩ = q at *
  have HL : Hid ((nodes l).length = l.length) := nodes_length l
  generalize hn : l.length = n at *
  clear hn
  obtain ⟨x0, x1, x2, x3, x4⟩ := five_cells HN0.out
  go_enter Try.func32, Try.ntmps32
  go_wp2_with fail
  refine hr.mono ?_
  clear hr x0 x1 x2 x3 x4
  rintro e w1 ⟨rfl, hb1⟩
  have HB1 : Hid (Below w.heap.size w w1) := HB0.out.trans (hb1.mono HB0.out.size)
  have HN1 : Hid (w1.heap[w.heap.size]? = some (.cells (carr ep sh (.slice a n c1) (.slice b n c2) le) 29)) := heap_kept HN0.out hb1
  have HV1 : Hid (Vals w1 a n ((nodes l).map (Value.int .i64))) := HV0.out.later hb1
  clear hb1 hw0
  obtain ⟨x0, x1, x2, x3, x4⟩ := five_cells HN1.out
  cases q
  · go_wp2
    go_ret
    exact ⟨ret_int (by rw [HR.out]; simp), HB1.out⟩
  · by_cases q1 : x < 0
    · go_wp2
      go_ret
      exact ⟨ret_int (by rw [HR.out, if_neg (by simp; omega)]), HB1.out⟩
    · by_cases q2 : (n : Int) ≤ x
      · go_wp2
        go_ret
        exact ⟨ret_int (by rw [HR.out, if_neg (by simp; omega)]), HB1.out⟩
      · obtain ⟨k, rfl⟩ : ∃ k : Nat, x = (k : Int) := ⟨x.toNat, by omega⟩
        obtain ⟨b1, off, rfl, hc⟩ := HV1.out.at (by omega)
        have hk : k < (nodes l).length := by have := HL.out; omega
        have c0 := hc k (.int .i64 (nodes l)[k]) (by simp [hk])
        have HG : Hid ((nodes l)[k]? = some (nodes l)[k]) := List.getElem?_eq_getElem hk
        clear hc
        generalize (nodes l)[k] = y at c0 HG
        go_wp2
        go_ret
        exact ⟨ret_int (by rw [HR.out, if_pos (by simp; omega), Int.toNat_natCast, HG.out]; rfl), HB1.out⟩

set_option maxRecDepth 100000 in
theorem head_any (v : Value) (c : Cf) (w : World) (h : Cfr w v c) :
    Calls Try.prog 12 #[v] w fun e w' => e = .returned (.int .i64 (atC c 0)) ∧ Below w.heap.size w w' := by
  obtain ⟨a, c1, b, c2, w0, rfl, hw0, HB0, HN0, HC0, HV0, HW0, hl⟩ := h.box
  have hr := at_any _ _ 0 _ HC0.out
  clear h
  generalize atC c 0 = r at *
  obtain ⟨ep, sh, l, le⟩ := c
  simp only at *
  generalize hn : l.length = n at *
  clear hn
  obtain ⟨x0, x1, x2, x3, x4⟩ := five_cells HN0.out
  go_enter Try.func12, Try.ntmps12
  go_wp2_with fail
  refine hr.mono ?_
  clear hr x0 x1 x2 x3 x4
  rintro e w1 ⟨rfl, hb1⟩
  have HB1 : Hid (Below w.heap.size w w1) := HB0.out.trans (hb1.mono HB0.out.size)
  clear hb1 hw0
  go_wp2
  go_ret
  exact ⟨rfl, HB1.out⟩

set_option maxRecDepth 100000 in
theorem tail_any (v : Value) (c : Cf) (w : World) (h : Cfr w v c) :
    Calls Try.prog 13 #[v] w fun e w' => e = .returned (.int .i64 (atC c ((c.l.length : Int) - 1))) ∧ Below w.heap.size w w' := by
  obtain ⟨a, c1, b, c2, w0, rfl, hw0, HB0, HN0, HC0, HV0, HW0, hl⟩ := h.box
  have hr := at_any _ _ ((c.l.length : Int) - 1) _ HC0.out
  clear h
  generalize atC c ((c.l.length : Int) - 1) = r at *
  obtain ⟨ep, sh, l, le⟩ := c
  simp only at *
  generalize hn : l.length = n at *
  clear hn
  obtain ⟨x0, x1, x2, x3, x4⟩ := five_cells HN0.out
  go_enter Try.func13, Try.ntmps13
  go_wp2_with fail
  refine hr.mono ?_
  clear hr x0 x1 x2 x3 x4
  rintro e w1 ⟨rfl, hb1⟩
  have HB1 : Hid (Below w.heap.size w w1) := HB0.out.trans (hb1.mono HB0.out.size)
  clear hb1 hw0
  go_wp2
  go_ret
  exact ⟨rfl, HB1.out⟩

set_option maxRecDepth 100000 in
theorem beside_any (v : Value) (c : Cf) (x d : Int) (w : World) (h : Cfr w v c) (hd : -1 ≤ d ∧ d ≤ 1) :
    Calls Try.prog 33 #[v, .int .i64 x, .int .i64 d] w fun e w' => e = .returned (.int .i64 (besideC c x d)) ∧ Below w.heap.size w w' := by
  have HR : Hid (besideC c x d = if placeC c x < 0 then -1 else atC c (placeC c x + d)) := rfl
  generalize besideC c x d = r at *
  obtain ⟨a, c1, b, c2, w0, rfl, hw0, HB0, HN0, HC0, HV0, HW0, hl⟩ := h.box
  have hr := place_any _ _ x _ HC0.out
  have hp : placeC c x < c.l.length := by
    unfold placeC
    split
    · have := (plc_bd (nodes c.l) x).2; rw [nodes_length] at this; exact this
    · omega
  clear h
  have hat := fun w1 (hb1 : Below w0.heap.size w0 w1) => at_any _ _ (placeC c x + d) _ (HC0.out.later hb1)
  have HAT : Hid (∀ w1, Below w0.heap.size w0 w1 → Calls Try.prog 32 #[.agg (carr c.ep c.sh (.slice a c.l.length c1) (.slice b c.l.length c2) c.le), .int .i64 (placeC c x + d)] w1 fun e w' => e = .returned (.int .i64 (atC c (placeC c x + d))) ∧ Below w1.heap.size w1 w') := hat
  clear hat
  generalize atC c (placeC c x + d) = y at *
  generalize placeC c x = p at *
  obtain ⟨ep, sh, l, le⟩ := c
  simp only at *
  generalize hn : l.length = n at *
  clear hn
  obtain ⟨x0, x1, x2, x3, x4⟩ := five_cells HN0.out
  go_enter Try.func33, Try.ntmps33
  go_wp2_with fail
  refine hr.mono ?_
  clear hr x0 x1 x2 x3 x4
  rintro e w1 ⟨rfl, hb1⟩
  have HB1 : Hid (Below w.heap.size w w1) := HB0.out.trans (hb1.mono HB0.out.size)
  have HN1 : Hid (w1.heap[w.heap.size]? = some (.cells (carr ep sh (.slice a n c1) (.slice b n c2) le) 29)) := heap_kept HN0.out hb1
  have HA := HAT.out w1 hb1
  clear hb1 hw0 HAT
  obtain ⟨x0, x1, x2, x3, x4⟩ := five_cells HN1.out
  by_cases q1 : p < 0
  · clear HA
    go_wp2
    go_ret
    exact ⟨ret_int (by rw [HR.out, if_pos q1]), HB1.out⟩
  · go_wp2_with fail
    refine HA.mono ?_
    rintro e w2 ⟨rfl, hb2⟩
    have HB2 : Hid (Below w.heap.size w w2) := HB1.out.trans (hb2.mono HB1.out.size)
    clear hb2 HA x0 x1 x2 x3 x4
    go_wp2
    go_ret
    exact ⟨ret_int (by rw [HR.out, if_neg (by omega)]), HB2.out⟩

set_option maxRecDepth 100000 in
theorem next_any (v : Value) (c : Cf) (x : Int) (w : World) (h : Cfr w v c) :
    Calls Try.prog 14 #[v, .int .i64 x] w fun e w' => e = .returned (.int .i64 (besideC c x 1)) ∧ Below w.heap.size w w' := by
  obtain ⟨a, c1, b, c2, w0, rfl, hw0, HB0, HN0, HC0, HV0, HW0, hl⟩ := h.box
  have hr := beside_any _ _ x 1 _ HC0.out (by omega)
  clear h
  generalize besideC c x 1 = r at *
  obtain ⟨ep, sh, l, le⟩ := c
  simp only at *
  generalize hn : l.length = n at *
  clear hn
  obtain ⟨x0, x1, x2, x3, x4⟩ := five_cells HN0.out
  go_enter Try.func14, Try.ntmps14
  go_wp2_with fail
  refine hr.mono ?_
  clear hr x0 x1 x2 x3 x4
  rintro e w1 ⟨rfl, hb1⟩
  have HB1 : Hid (Below w.heap.size w w1) := HB0.out.trans (hb1.mono HB0.out.size)
  clear hb1 hw0
  go_wp2
  go_ret
  exact ⟨rfl, HB1.out⟩

set_option maxRecDepth 100000 in
theorem prev_any (v : Value) (c : Cf) (x : Int) (w : World) (h : Cfr w v c) :
    Calls Try.prog 15 #[v, .int .i64 x] w fun e w' => e = .returned (.int .i64 (besideC c x (-1))) ∧ Below w.heap.size w w' := by
  obtain ⟨a, c1, b, c2, w0, rfl, hw0, HB0, HN0, HC0, HV0, HW0, hl⟩ := h.box
  have hr := beside_any _ _ x (-1) _ HC0.out (by omega)
  clear h
  generalize besideC c x (-1) = r at *
  obtain ⟨ep, sh, l, le⟩ := c
  simp only at *
  generalize hn : l.length = n at *
  clear hn
  obtain ⟨x0, x1, x2, x3, x4⟩ := five_cells HN0.out
  go_enter Try.func15, Try.ntmps15
  go_wp2_with fail
  refine hr.mono ?_
  clear hr x0 x1 x2 x3 x4
  rintro e w1 ⟨rfl, hb1⟩
  have HB1 : Hid (Below w.heap.size w w1) := HB0.out.trans (hb1.mono HB0.out.size)
  clear hb1 hw0
  go_wp2
  go_ret
  exact ⟨rfl, HB1.out⟩

set_option maxRecDepth 100000 in
theorem learns_any (v : Value) (c : Cf) (x : Int) (w : World) (h : Cfr w v c) :
    Calls Try.prog 34 #[v, .int .i64 x] w fun e w' => e = .returned (.bool (learnsB c x)) ∧ Below w.heap.size w w' := by
  have HR : Hid (learnsB c x = (rightB c && srv x && decide (c.le = x))) := rfl
  generalize learnsB c x = r at *
  obtain ⟨a, c1, b, c2, w0, rfl, hw0, HB0, HN0, HC0, HV0, HW0, hl⟩ := h.box
  have hr := right_any _ _ _ HC0.out
  clear h
  obtain ⟨ep, sh, l, le⟩ := c
  simp only at *
  generalize rightB ⟨ep, sh, l, le⟩ = q at *
  generalize hn : l.length = n at *
  clear hn
  obtain ⟨x0, x1, x2, x3, x4⟩ := five_cells HN0.out
  go_enter Try.func34, Try.ntmps34
  go_wp2_with fail
  refine hr.mono ?_
  clear hr x0 x1 x2 x3 x4
  rintro e w1 ⟨rfl, hb1⟩
  have HB1 : Hid (Below w.heap.size w w1) := HB0.out.trans (hb1.mono HB0.out.size)
  have HN1 : Hid (w1.heap[w.heap.size]? = some (.cells (carr ep sh (.slice a n c1) (.slice b n c2) le) 29)) := heap_kept HN0.out hb1
  clear hb1 hw0
  obtain ⟨x0, x1, x2, x3, x4⟩ := five_cells HN1.out
  have hsv := server_any x w1
  generalize srv x = s at *
  cases q
  · clear hsv
    go_wp2
    go_ret
    exact ⟨ret_bool (by rw [HR.out]; simp), HB1.out⟩
  · cases s
    · go_wp2_with (go_at_call 30; refine hsv.mono ?_; rintro e w' ⟨rfl, rfl⟩)
      go_ret
      exact ⟨ret_bool (by rw [HR.out]; simp), HB1.out⟩
    · go_wp2_with (go_at_call 30; refine hsv.mono ?_; rintro e w' ⟨rfl, rfl⟩)
      go_ret
      exact ⟨ret_bool (by rw [HR.out]; simp [Bool.beq_eq_decide_eq]), HB1.out⟩

set_option maxRecDepth 100000 in
theorem has_any (v : Value) (c : Cf) (x : Int) (w : World) (h : Cfr w v c) :
    Calls Try.prog 16 #[v, .int .i64 x] w fun e w' => e = .returned (.bool (hasB c x)) ∧ Below w.heap.size w w' := by
  have HR : Hid (hasB c x = (learnsB c x || decide (0 ≤ placeC c x))) := rfl
  generalize hasB c x = r at *
  obtain ⟨a, c1, b, c2, w0, rfl, hw0, HB0, HN0, HC0, HV0, HW0, hl⟩ := h.box
  have hr := learns_any _ _ x _ HC0.out
  clear h
  have hat := fun w1 (hb1 : Below w0.heap.size w0 w1) => place_any _ _ x _ (HC0.out.later hb1)
  have HAT : Hid (∀ w1, Below w0.heap.size w0 w1 → Calls Try.prog 9 #[.agg (carr c.ep c.sh (.slice a c.l.length c1) (.slice b c.l.length c2) c.le), .int .i64 x] w1 fun e w' => e = .returned (.int .i64 (placeC c x)) ∧ Below w1.heap.size w1 w') := hat
  clear hat
  generalize placeC c x = p at *
  generalize learnsB c x = q at *
  obtain ⟨ep, sh, l, le⟩ := c
  simp only at *
  generalize hn : l.length = n at *
  clear hn
  obtain ⟨x0, x1, x2, x3, x4⟩ := five_cells HN0.out
  go_enter Try.func16, Try.ntmps16
  go_wp2_with fail
  refine hr.mono ?_
  clear hr x0 x1 x2 x3 x4
  rintro e w1 ⟨rfl, hb1⟩
  have HB1 : Hid (Below w.heap.size w w1) := HB0.out.trans (hb1.mono HB0.out.size)
  have HN1 : Hid (w1.heap[w.heap.size]? = some (.cells (carr ep sh (.slice a n c1) (.slice b n c2) le) 29)) := heap_kept HN0.out hb1
  have HA := HAT.out w1 hb1
  clear hb1 hw0 HAT
  obtain ⟨x0, x1, x2, x3, x4⟩ := five_cells HN1.out
  cases q
  · go_wp2_with fail
    refine HA.mono ?_
    rintro e w2 ⟨rfl, hb2⟩
    have HB2 : Hid (Below w.heap.size w w2) := HB1.out.trans (hb2.mono HB1.out.size)
    clear hb2 HA x0 x1 x2 x3 x4
    go_wp2
    go_ret
    exact ⟨ret_bool (by rw [HR.out]; simp), HB2.out⟩
  · clear HA
    go_wp2
    go_ret
    exact ⟨ret_bool (by rw [HR.out]; simp), HB1.out⟩

set_option maxRecDepth 100000 in
theorem may_any (v : Value) (c : Cf) (x : Int) (e0 : Nat) (w : World) (h : Cfr w v c) :
    Calls Try.prog 52 #[v, .int .i64 x, .int .u64 (e0 : Nat)] w fun e w' => e = .returned (.bool (mayB c x e0)) ∧ Below w.heap.size w w' := by
  have HR : Hid (mayB c x e0 = (rightB c && srv x && decide (c.ep < e0))) := rfl
  generalize mayB c x e0 = r at *
  obtain ⟨a, c1, b, c2, w0, rfl, hw0, HB0, HN0, HC0, HV0, HW0, hl⟩ := h.box
  have hr := right_any _ _ _ HC0.out
  clear h
  obtain ⟨ep, sh, l, le⟩ := c
  simp only at *
  generalize rightB ⟨ep, sh, l, le⟩ = q at *
  generalize hn : l.length = n at *
  clear hn
  obtain ⟨x0, x1, x2, x3, x4⟩ := five_cells HN0.out
  go_enter Try.func52, Try.ntmps52
  go_wp2_with fail
  refine hr.mono ?_
  clear hr x0 x1 x2 x3 x4
  rintro e w1 ⟨rfl, hb1⟩
  have HB1 : Hid (Below w.heap.size w w1) := HB0.out.trans (hb1.mono HB0.out.size)
  have HN1 : Hid (w1.heap[w.heap.size]? = some (.cells (carr ep sh (.slice a n c1) (.slice b n c2) le) 29)) := heap_kept HN0.out hb1
  clear hb1 hw0
  obtain ⟨x0, x1, x2, x3, x4⟩ := five_cells HN1.out
  have hsv := server_any x w1
  generalize srv x = s at *
  cases q
  · clear hsv
    go_wp2
    go_ret
    exact ⟨ret_bool (by rw [HR.out]; simp), HB1.out⟩
  · cases s
    · go_wp2_with (go_at_call 30; refine hsv.mono ?_; rintro e w' ⟨rfl, rfl⟩)
      go_ret
      exact ⟨ret_bool (by rw [HR.out]; simp), HB1.out⟩
    · go_wp2_with (go_at_call 30; refine hsv.mono ?_; rintro e w' ⟨rfl, rfl⟩)
      go_ret
      exact ⟨ret_bool (by rw [HR.out]; simp), HB1.out⟩
end Go.Proofs.Ytgpjplpfjghcgaa
