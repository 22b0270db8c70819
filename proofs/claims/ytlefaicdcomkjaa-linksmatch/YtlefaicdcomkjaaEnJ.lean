/- wrongTxn, RightTxn: which transactions are right: contracts. -/
import Derived.Test.YtlefaicdcomkjaaEnI
namespace Go.Proofs.Ytlefaicdcomkjaa
open Go Go.RowKit
set_option linter.unusedVariables false
set_option linter.unusedSimpArgs false

/-- an error is nil just if all is right -/
def ErrIs (r : Value) (b : Bool) : Prop := (b = true → r = .nilIface) ∧ (b = false → ∃ tu vu, r = .iface tu vu)
theorem ErrIs.bad {tu : TypeId} {vu : Value} {b : Bool} (h : b = false) : ErrIs (.iface tu vu) b := ⟨fun h2 => (by rw [h] at h2; cases h2), fun _ => ⟨tu, vu, rfl⟩⟩
theorem ErrIs.good {b : Bool} (h : b = true) : ErrIs .nilIface b := ⟨fun _ => rfl, fun h2 => (by rw [h] at h2; cases h2)⟩
theorem fnew_any (s : ByteArray) (n : Int) (w : World) (hn : n ≠ 0) :
    Calls Try.prog 53 #[.string s, .int .i64 n] w fun e w' => (∃ tu vu, e = .returned (.iface tu vu)) ∧ Below w.heap.size w w' := by
  go_enter Try.func53, Try.ntmps53
  go_wp2
  go_ret
  exact ⟨⟨_, _, rfl⟩, (Below.refl _ _).alloc (Nat.le_refl _) _⟩
theorem fin_bad (s : ByteArray) (tu : TypeId) (vu : Value) (w : World) :
    Calls Try.prog 54 #[.string s, .iface tu vu] w fun e w' => (∃ tu vu, e = .returned (.iface tu vu)) ∧ Below w.heap.size w w' := by
  go_enter Try.func54, Try.ntmps54
  go_wp2
  go_ret
  exact ⟨⟨_, _, rfl⟩, (Below.refl _ _).alloc (Nat.le_refl _) _⟩
theorem fin_ok (s : ByteArray) (w : World) :
    Calls Try.prog 54 #[.string s, .nilIface] w fun e w' => e = .returned .nilIface ∧ w' = w := by
  go_enter Try.func54, Try.ntmps54
  go_wp2
  go_ret
  exact ⟨rfl, rfl⟩
theorem fin_any (s : ByteArray) (r : Value) (b : Bool) (w : World) (h : ErrIs r b) :
    Calls Try.prog 54 #[.string s, r] w fun e w' => (∃ r', e = .returned r' ∧ ErrIs r' b) ∧ Below w.heap.size w w' := by
  cases b
  · obtain ⟨tu, vu, rfl⟩ := h.2 rfl
    refine (fin_bad s tu vu w).mono ?_
    rintro e w' ⟨⟨tu', vu', rfl⟩, hb⟩
    exact ⟨⟨_, rfl, ErrIs.bad rfl⟩, hb⟩
  · obtain rfl := h.1 rfl
    refine (fin_ok s w).mono ?_
    rintro e w' ⟨rfl, rfl⟩
    exact ⟨⟨_, rfl, ErrIs.good rfl⟩, Below.refl _ _⟩
/-- a transaction's parts, no key too long for a machine -/
structure Fine (l1 : List Rdv) (l2 : List Wrv) : Prop where
  r : ∀ x ∈ l1, x.key.size ≤ maxLen
  k : ∀ x ∈ l2, x.key.size ≤ maxLen
  v : ∀ x ∈ l2, x.val.size ≤ maxLen
abbrev txnv (id : Id) (plain : Bool) (v1 v2 : Value) : Value := .agg #[.int .i64 id.1, .int .u64 id.2, .bool plain, v1, v2]
set_option maxRecDepth 100000 in
set_option maxHeartbeats 8000000 in
theorem wrongTxn_any (id : Id) (plain : Bool) (b1 : Nat) (v1 v2 : Value) (l1 : List Rdv) (l2 : List Wrv) (w : World) (h1 : w.ownsRow b1 95 2 v1 l1.length (l1.flatMap Rdv.cells)) (h2 : w.ownsRow b1 98 3 v2 l2.length (l2.flatMap Wrv.cells)) (hf : Fine l1 l2) (hl1 : l1.length ≤ 1000) (hl2 : l2.length ≤ 1000) :
    Calls Try.prog 59 #[txnv id plain v1 v2] w fun e w' => (∃ r, e = .returned r ∧ ErrIs r (rtxn id plain l1 l2)) ∧ Below w.heap.size w w' := by
  obtain ⟨a1, n1, c1, rfl⟩ := owns_slice h1
  obtain ⟨a2, n2, c2, rfl⟩ := owns_slice h2
  obtain rfl : n1 = l1.length := by
    obtain ⟨_, _, e, -⟩ := owns_at Rdv.cells 2 (fun _ => rfl) h1
    simp only [Value.slice.injEq] at e
    exact e.2.1
  obtain rfl : n2 = l2.length := by
    obtain ⟨_, _, e, -⟩ := owns_at Wrv.cells 3 (fun _ => rfl) h2
    simp only [Value.slice.injEq] at e
    exact e.2.1
  have hb : Below w.heap.size w (w.alloc (.cells #[.int .i64 id.1, .int .u64 id.2, .bool plain, .slice a1 l1.length c1, .slice a2 l2.length c2] 42)) := (Below.refl _ _).alloc (Nat.le_refl _) _
  have hn := heap_alloc_new w (.cells #[.int .i64 id.1, .int .u64 id.2, .bool plain, .slice a1 l1.length c1, .slice a2 l2.length c2] 42)
  have HO1 : Hid ((w.alloc (.cells #[.int .i64 id.1, .int .u64 id.2, .bool plain, .slice a1 l1.length c1, .slice a2 l2.length c2] 42)).ownsRow b1 95 2 (.slice a1 l1.length c1) l1.length (l1.flatMap Rdv.cells)) := owns_later h1 hb
  have HO2 : Hid ((w.alloc (.cells #[.int .i64 id.1, .int .u64 id.2, .bool plain, .slice a1 l1.length c1, .slice a2 l2.length c2] 42)).ownsRow b1 98 3 (.slice a2 l2.length c2) l2.length (l2.flatMap Wrv.cells)) := owns_later h2 hb
  have HF : Hid (Fine l1 l2) := hf
  have HE : Hid (rtxn id plain l1 l2 = (rid id && rcounts plain l1.length l2.length && goodB [] (l1.map Rdv.key) && goodB [] (l2.map Wrv.key) && l2.all rval1)) := rfl
  clear h1 h2 hf
  generalize hw0 : w.alloc (.cells #[.int .i64 id.1, .int .u64 id.2, .bool plain, .slice a1 l1.length c1, .slice a2 l2.length c2] 42) = w0 at *
  have HN0 : Hid (w0.heap[w.heap.size]? = some (.cells #[.int .i64 id.1, .int .u64 id.2, .bool plain, .slice a1 l1.length c1, .slice a2 l2.length c2] 42)) := hn
  have HB0 : Hid (Below w.heap.size w w0) := hb
  clear hn hb
  have e0 : w0.cell? ⟨w.heap.size, 0, none⟩ = some (.int .i64 id.1) := cell_of_heap HN0.out rfl
  have e1 : w0.cell? ⟨w.heap.size, 1, none⟩ = some (.int .u64 id.2) := cell_of_heap HN0.out rfl
  have e2 : w0.cell? ⟨w.heap.size, 2, none⟩ = some (.bool plain) := cell_of_heap HN0.out rfl
  have e3 : w0.cell? ⟨w.heap.size, 3, none⟩ = some (.slice a1 l1.length c1) := cell_of_heap HN0.out rfl
  have e4 : w0.cell? ⟨w.heap.size, 4, none⟩ = some (.slice a2 l2.length c2) := cell_of_heap HN0.out rfl
  go_enter Try.func59, Try.ntmps59
  go_wp2_with fail
  refine (rightID_any id w0).mono ?_
  rintro e w1 ⟨rfl, hb1⟩
  have HN1 : Hid (w1.heap[w.heap.size]? = some (.cells #[.int .i64 id.1, .int .u64 id.2, .bool plain, .slice a1 l1.length c1, .slice a2 l2.length c2] 42)) := (hb1.block _ (Array.getElem?_eq_some_iff.1 HN0.out).1).trans HN0.out
  have HB1 : Hid (Below w.heap.size w w1) := HB0.out.trans (hb1.mono HB0.out.size)
  have HO11 : Hid (w1.ownsRow b1 95 2 (.slice a1 l1.length c1) l1.length (l1.flatMap Rdv.cells)) := owns_later HO1.out hb1
  have HO21 : Hid (w1.ownsRow b1 98 3 (.slice a2 l2.length c2) l2.length (l2.flatMap Wrv.cells)) := owns_later HO2.out hb1
  clear hb1 HN0 HB0 HO1 HO2 e0 e1 e2 e3 e4
  clear hw0
  cases hc1 : rid id
  · have HT : Hid (rtxn id plain l1 l2 = false) := by rw [Hid, HE.out, hc1]; simp
    clear hc1
    go_wp2_with fail
    refine (fnew_any _ 1 w1 (by decide)).mono ?_
    rintro e wz ⟨⟨tu, vu, rfl⟩, hbz⟩
    have HBZ : Hid (Below w.heap.size w wz) := HB1.out.trans (hbz.mono HB1.out.size)
    clear hbz
    go_wp2
    go_ret
    exact ⟨⟨_, rfl, ErrIs.bad HT.out⟩, HBZ.out⟩
  have e0 : w1.cell? ⟨w.heap.size, 0, none⟩ = some (.int .i64 id.1) := cell_of_heap HN1.out rfl
  have e1 : w1.cell? ⟨w.heap.size, 1, none⟩ = some (.int .u64 id.2) := cell_of_heap HN1.out rfl
  have e2 : w1.cell? ⟨w.heap.size, 2, none⟩ = some (.bool plain) := cell_of_heap HN1.out rfl
  have e3 : w1.cell? ⟨w.heap.size, 3, none⟩ = some (.slice a1 l1.length c1) := cell_of_heap HN1.out rfl
  have e4 : w1.cell? ⟨w.heap.size, 4, none⟩ = some (.slice a2 l2.length c2) := cell_of_heap HN1.out rfl
  go_wp2_with fail
  refine (rightCounts_any id plain a1 l1.length c1 a2 l2.length c2 w1 hl1 hl2).mono ?_
  rintro e w2 ⟨rfl, hb2⟩
  have HN2 : Hid (w2.heap[w.heap.size]? = some (.cells #[.int .i64 id.1, .int .u64 id.2, .bool plain, .slice a1 l1.length c1, .slice a2 l2.length c2] 42)) := (hb2.block _ (Array.getElem?_eq_some_iff.1 HN1.out).1).trans HN1.out
  have HB2 : Hid (Below w.heap.size w w2) := HB1.out.trans (hb2.mono HB1.out.size)
  have HO12 : Hid (w2.ownsRow b1 95 2 (.slice a1 l1.length c1) l1.length (l1.flatMap Rdv.cells)) := owns_later HO11.out hb2
  have HO22 : Hid (w2.ownsRow b1 98 3 (.slice a2 l2.length c2) l2.length (l2.flatMap Wrv.cells)) := owns_later HO21.out hb2
  clear hb2 HN1 HB1 HO11 HO21 e0 e1 e2 e3 e4
  cases hc2 : rcounts plain l1.length l2.length
  · have HT : Hid (rtxn id plain l1 l2 = false) := by rw [Hid, HE.out, hc1, hc2]; simp
    clear hc1 hc2
    go_wp2_with fail
    refine (fnew_any _ 1 w2 (by decide)).mono ?_
    rintro e wz ⟨⟨tu, vu, rfl⟩, hbz⟩
    have HBZ : Hid (Below w.heap.size w wz) := HB2.out.trans (hbz.mono HB2.out.size)
    clear hbz
    go_wp2
    go_ret
    exact ⟨⟨_, rfl, ErrIs.bad HT.out⟩, HBZ.out⟩
  have e0 : w2.cell? ⟨w.heap.size, 0, none⟩ = some (.int .i64 id.1) := cell_of_heap HN2.out rfl
  have e1 : w2.cell? ⟨w.heap.size, 1, none⟩ = some (.int .u64 id.2) := cell_of_heap HN2.out rfl
  have e2 : w2.cell? ⟨w.heap.size, 2, none⟩ = some (.bool plain) := cell_of_heap HN2.out rfl
  have e3 : w2.cell? ⟨w.heap.size, 3, none⟩ = some (.slice a1 l1.length c1) := cell_of_heap HN2.out rfl
  have e4 : w2.cell? ⟨w.heap.size, 4, none⟩ = some (.slice a2 l2.length c2) := cell_of_heap HN2.out rfl
  go_wp2_with fail
  refine (readKeys_any b1 _ l1 w2 HO12.out hl1).mono ?_
  rintro e w3 ⟨⟨u3, rfl, ho3⟩, hb3⟩
  have HN3 : Hid (w3.heap[w.heap.size]? = some (.cells #[.int .i64 id.1, .int .u64 id.2, .bool plain, .slice a1 l1.length c1, .slice a2 l2.length c2] 42)) := (hb3.block _ (Array.getElem?_eq_some_iff.1 HN2.out).1).trans HN2.out
  have HB3 : Hid (Below w.heap.size w w3) := HB2.out.trans (hb3.mono HB2.out.size)
  have HO13 : Hid (w3.ownsRow b1 95 2 (.slice a1 l1.length c1) l1.length (l1.flatMap Rdv.cells)) := owns_later HO12.out hb3
  have HO23 : Hid (w3.ownsRow b1 98 3 (.slice a2 l2.length c2) l2.length (l2.flatMap Wrv.cells)) := owns_later HO22.out hb3
  clear hb3 HN2 HB2 HO12 HO22 e0 e1 e2 e3 e4
  have hk3 : OwnV w3 w2.heap.size 9 u3 ((l1.map Rdv.key).map Value.string) := by rw [List.map_map]; exact ho3
  have q3 := rightKeys_any _ u3 (l1.map Rdv.key) w3 hk3 (by simpa using hl1) (fun x hx => by obtain ⟨r, hr, rfl⟩ := List.mem_map.1 hx; exact HF.out.r r hr)
  clear ho3 hk3
  go_wp2_with fail
  refine q3.mono ?_
  clear q3
  rintro e w4 ⟨rfl, hb4⟩
  have HN4 : Hid (w4.heap[w.heap.size]? = some (.cells #[.int .i64 id.1, .int .u64 id.2, .bool plain, .slice a1 l1.length c1, .slice a2 l2.length c2] 42)) := (hb4.block _ (Array.getElem?_eq_some_iff.1 HN3.out).1).trans HN3.out
  have HB4 : Hid (Below w.heap.size w w4) := HB3.out.trans (hb4.mono HB3.out.size)
  have HO14 : Hid (w4.ownsRow b1 95 2 (.slice a1 l1.length c1) l1.length (l1.flatMap Rdv.cells)) := owns_later HO13.out hb4
  have HO24 : Hid (w4.ownsRow b1 98 3 (.slice a2 l2.length c2) l2.length (l2.flatMap Wrv.cells)) := owns_later HO23.out hb4
  clear hb4 HN3 HB3 HO13 HO23
  cases hc4 : goodB [] (l1.map Rdv.key)
  · have HT : Hid (rtxn id plain l1 l2 = false) := by rw [Hid, HE.out, hc1, hc2, hc4]; simp
    clear hc1 hc2 hc4
    go_wp2_with fail
    refine (fnew_any _ 1 w4 (by decide)).mono ?_
    rintro e wz ⟨⟨tu, vu, rfl⟩, hbz⟩
    have HBZ : Hid (Below w.heap.size w wz) := HB4.out.trans (hbz.mono HB4.out.size)
    clear hbz
    go_wp2
    go_ret
    exact ⟨⟨_, rfl, ErrIs.bad HT.out⟩, HBZ.out⟩
  have e0 : w4.cell? ⟨w.heap.size, 0, none⟩ = some (.int .i64 id.1) := cell_of_heap HN4.out rfl
  have e1 : w4.cell? ⟨w.heap.size, 1, none⟩ = some (.int .u64 id.2) := cell_of_heap HN4.out rfl
  have e2 : w4.cell? ⟨w.heap.size, 2, none⟩ = some (.bool plain) := cell_of_heap HN4.out rfl
  have e3 : w4.cell? ⟨w.heap.size, 3, none⟩ = some (.slice a1 l1.length c1) := cell_of_heap HN4.out rfl
  have e4 : w4.cell? ⟨w.heap.size, 4, none⟩ = some (.slice a2 l2.length c2) := cell_of_heap HN4.out rfl
  go_wp2_with fail
  refine (writeKeys_any b1 _ l2 w4 HO24.out hl2).mono ?_
  rintro e w5 ⟨⟨u5, rfl, ho5⟩, hb5⟩
  have HN5 : Hid (w5.heap[w.heap.size]? = some (.cells #[.int .i64 id.1, .int .u64 id.2, .bool plain, .slice a1 l1.length c1, .slice a2 l2.length c2] 42)) := (hb5.block _ (Array.getElem?_eq_some_iff.1 HN4.out).1).trans HN4.out
  have HB5 : Hid (Below w.heap.size w w5) := HB4.out.trans (hb5.mono HB4.out.size)
  have HO15 : Hid (w5.ownsRow b1 95 2 (.slice a1 l1.length c1) l1.length (l1.flatMap Rdv.cells)) := owns_later HO14.out hb5
  have HO25 : Hid (w5.ownsRow b1 98 3 (.slice a2 l2.length c2) l2.length (l2.flatMap Wrv.cells)) := owns_later HO24.out hb5
  clear hb5 HN4 HB4 HO14 HO24 e0 e1 e2 e3 e4
  have hk5 : OwnV w5 w4.heap.size 9 u5 ((l2.map Wrv.key).map Value.string) := by rw [List.map_map]; exact ho5
  have q5 := rightKeys_any _ u5 (l2.map Wrv.key) w5 hk5 (by simpa using hl2) (fun x hx => by obtain ⟨r, hr, rfl⟩ := List.mem_map.1 hx; exact HF.out.k r hr)
  clear ho5 hk5
  go_wp2_with fail
  refine q5.mono ?_
  clear q5
  rintro e w6 ⟨rfl, hb6⟩
  have HN6 : Hid (w6.heap[w.heap.size]? = some (.cells #[.int .i64 id.1, .int .u64 id.2, .bool plain, .slice a1 l1.length c1, .slice a2 l2.length c2] 42)) := (hb6.block _ (Array.getElem?_eq_some_iff.1 HN5.out).1).trans HN5.out
  have HB6 : Hid (Below w.heap.size w w6) := HB5.out.trans (hb6.mono HB5.out.size)
  have HO16 : Hid (w6.ownsRow b1 95 2 (.slice a1 l1.length c1) l1.length (l1.flatMap Rdv.cells)) := owns_later HO15.out hb6
  have HO26 : Hid (w6.ownsRow b1 98 3 (.slice a2 l2.length c2) l2.length (l2.flatMap Wrv.cells)) := owns_later HO25.out hb6
  clear hb6 HN5 HB5 HO15 HO25
  cases hc6 : goodB [] (l2.map Wrv.key)
  · have HT : Hid (rtxn id plain l1 l2 = false) := by rw [Hid, HE.out, hc1, hc2, hc4, hc6]; simp
    clear hc1 hc2 hc4 hc6
    go_wp2_with fail
    refine (fnew_any _ 1 w6 (by decide)).mono ?_
    rintro e wz ⟨⟨tu, vu, rfl⟩, hbz⟩
    have HBZ : Hid (Below w.heap.size w wz) := HB6.out.trans (hbz.mono HB6.out.size)
    clear hbz
    go_wp2
    go_ret
    exact ⟨⟨_, rfl, ErrIs.bad HT.out⟩, HBZ.out⟩
  have e0 : w6.cell? ⟨w.heap.size, 0, none⟩ = some (.int .i64 id.1) := cell_of_heap HN6.out rfl
  have e1 : w6.cell? ⟨w.heap.size, 1, none⟩ = some (.int .u64 id.2) := cell_of_heap HN6.out rfl
  have e2 : w6.cell? ⟨w.heap.size, 2, none⟩ = some (.bool plain) := cell_of_heap HN6.out rfl
  have e3 : w6.cell? ⟨w.heap.size, 3, none⟩ = some (.slice a1 l1.length c1) := cell_of_heap HN6.out rfl
  have e4 : w6.cell? ⟨w.heap.size, 4, none⟩ = some (.slice a2 l2.length c2) := cell_of_heap HN6.out rfl
  go_wp2_with fail
  refine (rightValues_any b1 _ l2 w6 HO26.out hl2 HF.out.v).mono ?_
  rintro e w7 ⟨rfl, hb7⟩
  have HN7 : Hid (w7.heap[w.heap.size]? = some (.cells #[.int .i64 id.1, .int .u64 id.2, .bool plain, .slice a1 l1.length c1, .slice a2 l2.length c2] 42)) := (hb7.block _ (Array.getElem?_eq_some_iff.1 HN6.out).1).trans HN6.out
  have HB7 : Hid (Below w.heap.size w w7) := HB6.out.trans (hb7.mono HB6.out.size)
  have HO17 : Hid (w7.ownsRow b1 95 2 (.slice a1 l1.length c1) l1.length (l1.flatMap Rdv.cells)) := owns_later HO16.out hb7
  have HO27 : Hid (w7.ownsRow b1 98 3 (.slice a2 l2.length c2) l2.length (l2.flatMap Wrv.cells)) := owns_later HO26.out hb7
  clear hb7 HN6 HB6 HO16 HO26 e0 e1 e2 e3 e4
  cases hc7 : l2.all rval1
  · have HT : Hid (rtxn id plain l1 l2 = false) := by rw [Hid, HE.out, hc1, hc2, hc4, hc6, hc7]; simp
    clear hc1 hc2 hc4 hc6 hc7
    go_wp2_with fail
    refine (fnew_any _ 1 w7 (by decide)).mono ?_
    rintro e wz ⟨⟨tu, vu, rfl⟩, hbz⟩
    have HBZ : Hid (Below w.heap.size w wz) := HB7.out.trans (hbz.mono HB7.out.size)
    clear hbz
    go_wp2
    go_ret
    exact ⟨⟨_, rfl, ErrIs.bad HT.out⟩, HBZ.out⟩
  · have HT : Hid (rtxn id plain l1 l2 = true) := by rw [Hid, HE.out, hc1, hc2, hc4, hc6, hc7]; rfl
    clear hc1 hc2 hc4 hc6 hc7
    go_wp2
    go_ret
    exact ⟨⟨_, rfl, ErrIs.good HT.out⟩, HB7.out⟩
end Go.Proofs.Ytlefaicdcomkjaa
