/- Whether a configuration may be. -/
import Derived.Test.YtgpjplpfjghcgaaCoA
namespace Go.Proofs.Ytgpjplpfjghcgaa
open Go Go.RowKit
set_option linter.unusedVariables false
set_option linter.unusedSimpArgs false

theorem map_mi (l : List Mb) : l.map mi = (nodes l).map (Value.int .i64) := by simp [nodes, mi]
/-- a configuration, its lists read where they lie -/
def Cfr (w : World) (v : Value) (c : Cf) : Prop := ∃ a c1 b c2, v = .agg #[.int .u64 (c.ep : Nat), .int .i64 c.sh, .slice a c.l.length c1, .slice b c.l.length c2, .int .i64 c.le] ∧
  Vals w a c.l.length (c.l.map mi) ∧ Vals w b c.l.length (c.l.map mb) ∧ c.l.length ≤ 100000
theorem Cfr.later {w wx : World} {v : Value} {c : Cf} (h : Cfr w v c) (hb : Below w.heap.size w wx) : Cfr wx v c := by
  obtain ⟨a, c1, b, c2, rfl, h1, h2, h3⟩ := h
  exact ⟨a, c1, b, c2, rfl, h1.later hb, h2.later hb, h3⟩
abbrev carr (ep : Nat) (sh : Int) (va vb : Value) (le : Int) : Array Value := #[.int .u64 (ep : Nat), .int .i64 sh, va, vb, .int .i64 le]
theorem five_cells {w : World} {g : Nat} {a b c d e : Value} {t : TypeId} (h : w.heap[g]? = some (.cells #[a, b, c, d, e] t (0, 0))) :
    w.cell? ⟨g, 0, none⟩ = some a ∧ w.cell? ⟨g, 1, none⟩ = some b ∧ w.cell? ⟨g, 2, none⟩ = some c ∧ w.cell? ⟨g, 3, none⟩ = some d ∧ w.cell? ⟨g, 4, none⟩ = some e :=
  ⟨cell_of_heap h rfl, cell_of_heap h rfl, cell_of_heap h rfl, cell_of_heap h rfl, cell_of_heap h rfl⟩
theorem heap_kept {w wx : World} {g : Nat} {o : Obj} (h : w.heap[g]? = some o) (hb : Below w.heap.size w wx) : wx.heap[g]? = some o :=
  (hb.block g (Array.getElem?_eq_some_iff.1 h).1).trans h

theorem right_any (v : Value) (c : Cf) (w : World) (h : Cfr w v c) :
    Calls Try.prog 10 #[v] w fun e w' => e = .returned (.bool (rightB c)) ∧ Below w.heap.size w w' := by
  obtain ⟨a, c1, b, c2, rfl, ha, hb, hl⟩ := h
  obtain ⟨ep, sh, l, le⟩ := c
  simp only at *
  have hbox : Below w.heap.size w (w.alloc (.cells (carr ep sh (.slice a l.length c1) (.slice b l.length c2) le) 29)) := (Below.refl _ _).alloc (Nat.le_refl _) _
  have hnew := heap_alloc_new w (.cells (carr ep sh (.slice a l.length c1) (.slice b l.length c2) le) 29)
  have hla := ha.later hbox
  rw [map_mi] at hla
  have hch := chain_any a l.length c1 (nodes l) _ hla (by omega)
  have HA : Hid (Vals w a l.length ((nodes l).map (Value.int .i64))) := by rw [map_mi] at ha; exact ha
  have HBV : Hid (Vals w b l.length (l.map mb)) := hb
  have HR : Hid (rightB ⟨ep, sh, l, le⟩ = (decide (0 < ep) && decide (0 ≤ sh) && decide (sh < 4) && chOk (nodes l) && hd l && leOk le (nodes l))) := rfl
  have hne : chOk (nodes l) = true → 0 < l.length ∧ ∃ b1 off, b = some ⟨b1, off, none⟩ ∧ w.cell? ⟨b1, off, none⟩ = some (.bool (hd l)) := by
    intro h
    simp only [chOk, Bool.and_eq_true, decide_eq_true_eq] at h
    cases l with
    | nil => simp [nodes] at h
    | cons m t =>
      obtain ⟨b1, off, e, hc⟩ := hb.at (by simp)
      exact ⟨by simp, b1, off, e, by have := hc 0 (mb m) (by simp); simpa [mb, hd] using this⟩
  have HNE : Hid (chOk (nodes l) = true → 0 < l.length ∧ ∃ b1 off, b = some ⟨b1, off, none⟩ ∧ w.cell? ⟨b1, off, none⟩ = some (.bool (hd l))) := hne
  clear ha hb hla hne
  generalize rightB ⟨ep, sh, l, le⟩ = r at *
  generalize hw0 : w.alloc (.cells (carr ep sh (.slice a l.length c1) (.slice b l.length c2) le) 29) = w0 at *
  have HB0 : Hid (Below w.heap.size w w0) := hbox
  have HN0 : Hid (w0.heap[w.heap.size]? = some (.cells (carr ep sh (.slice a l.length c1) (.slice b l.length c2) le) 29)) := hnew
  obtain ⟨x0, x1, x2, x3, x4⟩ := five_cells hnew
  clear hbox hnew
  generalize hn : l.length = n at *
  have hn2 : Hid (l.length = n) := hn
  clear hn
  by_cases q1 : 0 < ep
  · by_cases q2 : 0 ≤ sh
    · by_cases q3 : sh < 4
      · go_enter Try.func10, Try.ntmps10
        go_wp2_with fail
        refine hch.mono ?_
        clear hch
        rintro e w1 ⟨rfl, hb1⟩
        have HB1 : Hid (Below w.heap.size w w1) := HB0.out.trans (hb1.mono HB0.out.size)
        have HN1 : Hid (w1.heap[w.heap.size]? = some (.cells (carr ep sh (.slice a n c1) (.slice b n c2) le) 29)) := heap_kept HN0.out hb1
        clear hb1 HN0 x0 x1 x2 x3 x4 hw0 HB0
        obtain ⟨x0, x1, x2, x3, x4⟩ := five_cells HN1.out
        have HCON := contains_any a n c1 (nodes l) le w1 (HA.out.later HB1.out) (by omega)
        cases hc : chOk (nodes l) with
        | false =>
          rw [hc] at HR
          clear hc HCON
          go_wp2
          go_ret
          exact ⟨ret_bool (by rw [HR.out]; simp), HB1.out⟩
        | true =>
          obtain ⟨hp, b1, off, rfl, h0⟩ := HNE.out hc
          rw [hc] at HR
          have y0 := cell_later HB1.out h0
          clear hc h0 HNE
          generalize hd l = d at *
          cases d with
          | false =>
            clear HCON
            go_wp2
            go_ret
            exact ⟨ret_bool (by rw [HR.out]; simp), HB1.out⟩
          | true =>
            by_cases q4 : le = -1
            · have HL : Hid (leOk le (nodes l) = true) := by simp [Hid, leOk, q4]
              rw [HL.out] at HR
              clear HCON HL
              subst q4
              go_wp2
              go_ret
              exact ⟨ret_bool (by rw [HR.out]; simp [q1, q2, q3]), HB1.out⟩
            · have HL : Hid (leOk le (nodes l) = (srv le && !decide (le ∈ nodes l))) := by simp [Hid, leOk, q4]
              rw [HL.out] at HR
              clear HL
              have hsv := server_any le w1
              generalize decide (le ∈ nodes l) = t at *
              generalize srv le = s at *
              cases s
              · clear HCON
                go_wp2_with (go_at_call 30; refine hsv.mono ?_; rintro e w' ⟨rfl, rfl⟩)
                go_ret
                exact ⟨ret_bool (by rw [HR.out]; simp [q4]), HB1.out⟩
              · go_wp2_with (first | (go_at_call 30; refine hsv.mono ?_; rintro e w' ⟨rfl, rfl⟩) | (go_at_call 31; refine HCON.mono ?_; rintro e w' ⟨rfl, rfl⟩))
                go_ret
                exact ⟨ret_bool (by rw [HR.out]; simp [q1, q2, q3, q4]), HB1.out⟩
      · go_enter Try.func10, Try.ntmps10
        go_wp2
        go_ret
        exact ⟨ret_bool (by rw [HR.out]; simp; intros; omega), HB0.out⟩
    · go_enter Try.func10, Try.ntmps10
      go_wp2
      go_ret
      exact ⟨ret_bool (by rw [HR.out]; simp; intros; omega), HB0.out⟩
  · go_enter Try.func10, Try.ntmps10
    go_wp2
    go_ret
    exact ⟨ret_bool (by rw [HR.out]; simp; intros; omega), HB0.out⟩
end Go.Proofs.Ytgpjplpfjghcgaa
