/- entry.ReadTxn of a right transaction's own bytes. -/
import Derived.Test.YteokhedljfakkaaDoorEnRb
namespace Go.Proofs.YteokhedljfakkaaDoor
open Go Go.RowKit
set_option linter.unusedVariables false
set_option linter.unusedSimpArgs false

set_option maxRecDepth 100000 in
set_option maxHeartbeats 8000000 in
theorem readTxn_put (g : Nat) (id : Id) (plain : Bool) (l1 : List Rdv) (l2 : List Wrv) (t : List Nat) (w : World) (h : Rd w g (some (txnB id plain l1 l2 ++ t)))
    (hr : rtxn id plain l1 l2 = true) (hf : Fine l1 l2) (h0 : 0 ≤ id.1) (h5 : id.1 ≤ 5) (h1 : 0 ≤ id.2) (h2 : id.2 < 18446744073709551616)
    (hl1 : ∀ r ∈ l1, r.key.size ≤ 32 ∧ 0 ≤ r.num ∧ r.num < 18446744073709551616) (hl2 : ∀ r ∈ l2, r.key.size ≤ 32 ∧ r.val.size ≤ 64) (n1 : l1.length ≤ 8) (n2 : l2.length ≤ 8) :
    Calls Tryd.prog 20 #[.pointer (some ⟨g, 0, none⟩)] w fun e w' => (∃ xa xn xc ya yn yc, e = .returned (.tuple #[txnv id plain (.slice xa xn xc) (.slice ya yn yc), .bool true]) ∧ w'.ownsRow w.heap.size 79 2 (.slice xa xn xc) l1.length (l1.flatMap Rdv.cells) ∧ w'.ownsRow w.heap.size 80 3 (.slice ya yn yc) l2.length (l2.flatMap Wrv.cells)) ∧ Rd w' g (some t) ∧ Only g w w' := by
  obtain ⟨e1, e2⟩ := readTv_put id plain l1 l2 t h0 h5 h1 h2 hl1 hl2 n1 n2
  have HG : Hid (g < w.heap.size) := h.lt
  have hb0 : Below w.heap.size w (w.alloc (.cells #[.int .i64 0, .int .u64 0, .bool false, .slice none 0 0, .slice none 0 0] 35)) := (Below.refl _ _).alloc (Nat.le_refl _) _
  have hn0 := heap_alloc_new w (.cells #[.int .i64 0, .int .u64 0, .bool false, .slice none 0 0, .slice none 0 0] 35)
  have hcall := readTxn_any g _ _ (h.later hb0)
  rw [e1, e2] at hcall
  simp only at hcall
  have htag := (h.later hb0).tag
  clear e1 e2 h0 h5 h1 h2 hl1 hl2 h
  obtain ⟨i1, i2⟩ := id
  go_enter Tryd.func20, Tryd.ntmps20
  go_wp2_with fail
  generalize w.alloc (.cells #[.int .i64 0, .int .u64 0, .bool false, .slice none 0 0, .slice none 0 0] 35) = w0 at *
  refine hcall.mono ?_
  clear hcall
  rintro e w1 ⟨⟨v1, v2, rfl, ho1, ho2⟩, hd1, hy1⟩
  obtain ⟨xa, xn, xc, rfl⟩ := owns_slice ho1
  obtain ⟨ya, yn, yc, rfl⟩ := owns_slice ho2
  have HO1 : Hid (Only g w w1) := ((Only.refl g w).then hb0).trans hy1
  have HN1 : Hid (w1.heap[w.heap.size]? = some (.cells #[.int .i64 0, .int .u64 0, .bool false, .slice none 0 0, .slice none 0 0] 35)) := (hy1.fr htag).cells hn0 (by decide)
  have HR1 : Hid (w1.ownsRow w.heap.size 79 2 (.slice xa xn xc) l1.length (l1.flatMap Rdv.cells) ∧ w1.ownsRow w.heap.size 80 3 (.slice ya yn yc) l2.length (l2.flatMap Wrv.cells)) := ⟨owns_mono ho1 hb0.size, owns_mono ho2 hb0.size⟩
  have HD1 : Hid (Rd w1 g (some t)) := hd1
  clear ho1 ho2 hd1 hy1 hb0 hn0 htag
  have hb2 : Below w1.heap.size w1 (w1.alloc (.cells #[.int .i64 i1, .int .u64 i2, .bool plain, .slice xa xn xc, .slice ya yn yc] 35)) := (Below.refl _ _).alloc (Nat.le_refl _) _
  have hn2 := heap_alloc_new w1 (.cells #[.int .i64 i1, .int .u64 i2, .bool plain, .slice xa xn xc, .slice ya yn yc] 35)
  go_upto_region 2 with fail
  generalize w1.alloc (.cells #[.int .i64 i1, .int .u64 i2, .bool plain, .slice xa xn xc, .slice ya yn yc] 35) = w2 at *
  have HO2 : Hid (Only g w w2) := HO1.out.then (hb2.mono HO1.out.size)
  have HN2 : Hid (w2.heap[w.heap.size]? = some (.cells #[.int .i64 0, .int .u64 0, .bool false, .slice none 0 0, .slice none 0 0] 35)) := keepc hb2 HN1.out
  have HR2 : Hid (w2.ownsRow w.heap.size 79 2 (.slice xa xn xc) l1.length (l1.flatMap Rdv.cells) ∧ w2.ownsRow w.heap.size 80 3 (.slice ya yn yc) l2.length (l2.flatMap Wrv.cells)) := ⟨owns_later HR1.out.1 hb2, owns_later HR1.out.2 hb2⟩
  have HD2 : Hid (Rd w2 g (some t)) := HD1.out.later hb2
  have HT2 : Hid (w2.heap[w1.heap.size]? = some (.cells #[.int .i64 i1, .int .u64 i2, .bool plain, .slice xa xn xc, .slice ya yn yc] 35)) := hn2
  clear hb2 hn2 HO1 HN1 HR1 HD1
  generalize w1.heap.size = p at *
  have hcall := bad_any g _ w2 HD2.out
  rw [show ((some t : Option (List Nat)).isNone) = false from rfl] at hcall
  go_wp2_with fail
  refine hcall.mono ?_
  clear hcall
  rintro e w' ⟨rfl, hw⟩
  subst hw
  obtain ⟨x0, x1, x2, x3, x4⟩ := five_cells HT2.out
  have hcall := rightTxn_any (i1, i2) plain w.heap.size (.slice xa xn xc) (.slice ya yn yc) l1 l2 w' HR2.out.1 HR2.out.2 hf (by omega) (by omega)
  rw [hr] at hcall
  go_wp2_with fail
  refine hcall.mono ?_
  clear hcall x0 x1 x2 x3 x4
  rintro e w3 ⟨rfl, hb3⟩
  have HO3 : Hid (Only g w w3) := HO2.out.then (hb3.mono HO2.out.size)
  have hn3 : w3.heap[w.heap.size]? = some (.cells #[.int .i64 0, .int .u64 0, .bool false, .slice none 0 0, .slice none 0 0] 35) := keepc hb3 HN2.out
  obtain ⟨x0, x1, x2, x3, x4⟩ := five_cells (keepc hb3 HT2.out)
  obtain ⟨z0, z1, z2, z3, z4⟩ := five_cells hn3
  have hfz : ∀ o, w3.frozen? ⟨w.heap.size, o, none⟩ = false := fun o => frozen_of_row _ _ _ _ _ hn3
  have f0 := hfz 0
  have f1 := hfz 1
  have f2 := hfz 2
  have f3 := hfz 3
  have f4 := hfz 4
  have hbl : Below w.heap.size w3 (put5 w3 w.heap.size (.int .i64 i1) (.int .u64 i2) (.bool plain) (.slice xa xn xc) (.slice ya yn yc)) := below_put5 (Below.refl _ _) (Nat.le_refl _) _ _ _ _ _
  have HE : Hid (Rd (put5 w3 w.heap.size (.int .i64 i1) (.int .u64 i2) (.bool plain) (.slice xa xn xc) (.slice ya yn yc)) g (some t) ∧ Only g w (put5 w3 w.heap.size (.int .i64 i1) (.int .u64 i2) (.bool plain) (.slice xa xn xc) (.slice ya yn yc)) ∧ (put5 w3 w.heap.size (.int .i64 i1) (.int .u64 i2) (.bool plain) (.slice xa xn xc) (.slice ya yn yc)).ownsRow w.heap.size 79 2 (.slice xa xn xc) l1.length (l1.flatMap Rdv.cells) ∧ (put5 w3 w.heap.size (.int .i64 i1) (.int .u64 i2) (.bool plain) (.slice xa xn xc) (.slice ya yn yc)).ownsRow w.heap.size 80 3 (.slice ya yn yc) l2.length (l2.flatMap Wrv.cells)) := ⟨(HD2.out.later hb3).below hbl HG.out, HO3.out.then hbl, owns_put5 (owns_later HR2.out.1 hb3) hn3 (by decide) _ _ _ _ _, owns_put5 (owns_later HR2.out.2 hb3) hn3 (by decide) _ _ _ _ _⟩
  have hput : (put5 w3 w.heap.size (.int .i64 i1) (.int .u64 i2) (.bool plain) (.slice xa xn xc) (.slice ya yn yc)).heap[w.heap.size]? = some (.cells #[.int .i64 i1, .int .u64 i2, .bool plain, .slice xa xn xc, .slice ya yn yc] 35) := five_put hn3
  obtain ⟨c0, c1, c2, c3, c4⟩ := five_cells hput
  clear hbl hfz hn3 hput hb3 HO2 HN2 HR2 HD2 HT2
  go_wp2
  refine bodyPost_ret (v := .tuple #[.agg #[.int .i64 i1, .int .u64 i2, .bool plain, .slice xa xn xc, .slice ya yn yc], .bool true]) (by simp [results, Tryd.results20, go_sem, c0, c1, c2, c3, c4]) rfl ?_
  exact ⟨⟨_, _, _, _, _, _, rfl, HE.out.2.2.1, HE.out.2.2.2⟩, HE.out.1, HE.out.2.1⟩
end Go.Proofs.YteokhedljfakkaaDoor
