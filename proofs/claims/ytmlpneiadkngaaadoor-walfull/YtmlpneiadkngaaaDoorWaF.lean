/- What package wal's look does: contracts. -/
import Derived.Test.YtmlpneiadkngaaaDoorWaE
import Derived.Test.YtmlpneiadkngaaaDoorFrH
import Derived.Deep.RegionWith
import Derived.Handy
namespace Go.Proofs.YtmlpneiadkngaaaDoor
open Go.RowKit

/-- rows of bytes as a slice's elements, all of it memory from block 'base' on -/
def Recb (w : World) (base : Nat) (a : Option Addr) (n : Nat) (rs : List (List Nat)) : Prop :=
  rs.length = n ∧ (n = 0 ∨ ∃ g off, a = some ⟨g, off, none⟩ ∧ base ≤ g ∧ ∀ (i : Nat) r, rs[i]? = some r → ∃ aa nn cc, w.cell? ⟨g, off + i, none⟩ = some (.slice aa nn cc) ∧ Row w aa nn r ∧ ∀ x, aa = some x → base ≤ x.block)
theorem Recb.recv {w : World} {base : Nat} {a : Option Addr} {n : Nat} {rs : List (List Nat)} (h : Recb w base a n rs) : Recv w a n rs := by
  obtain ⟨h1, h2⟩ := h
  refine ⟨h1, ?_⟩
  rcases h2 with h2 | ⟨g, off, e, _, hc⟩
  · exact .inl h2
  · refine .inr ⟨g, off, e, fun i r hr => ?_⟩
    obtain ⟨aa, nn, cc, hx, hrow, _⟩ := hc i r hr
    exact ⟨_, hx, aa, nn, cc, rfl, hrow⟩
theorem Recb.mono {w : World} {base base' : Nat} {a : Option Addr} {n : Nat} {rs : List (List Nat)} (h : Recb w base a n rs) (hb : base' ≤ base) : Recb w base' a n rs := by
  obtain ⟨h1, h2⟩ := h
  refine ⟨h1, ?_⟩
  rcases h2 with h2 | ⟨g, off, e, hg, hc⟩
  · exact .inl h2
  · refine .inr ⟨g, off, e, by omega, fun i r hr => ?_⟩
    obtain ⟨aa, nn, cc, hx, hrow, hb2⟩ := hc i r hr
    exact ⟨aa, nn, cc, hx, hrow, fun x hx => by have := hb2 x hx; omega⟩
theorem Recb.frm {w w' : World} {T : Nat → Prop} {base : Nat} {a : Option Addr} {n : Nat} {rs : List (List Nat)} (h : Recb w base a n rs) (hf : Frm T w w') (hT : ∀ k, base ≤ k → k < w.heap.size → ¬ T k) : Recb w' base a n rs := by
  obtain ⟨h1, h2⟩ := h
  refine ⟨h1, ?_⟩
  rcases h2 with h2 | ⟨g, off, e, hg, hc⟩
  · exact .inl h2
  · refine .inr ⟨g, off, e, hg, fun i r hr => ?_⟩
    obtain ⟨aa, nn, cc, hx, hrow, hb2⟩ := hc i r hr
    exact ⟨aa, nn, cc, hf.cell hx (hT g hg (World.block_lt_of_cell? w _ hx)), hrow.fr hf (fun x hx h0 => hT _ (hb2 x hx) (hrow.sub x hx h0)), hb2⟩
theorem Recb.later {w w' : World} {base : Nat} {a : Option Addr} {n : Nat} {rs : List (List Nat)} (h : Recb w base a n rs) (hb : Below w.heap.size w w') : Recb w' base a n rs :=
  h.frm (Frm.of_below hb (fun _ => False) (fun k h1 h2 => by omega)) (fun _ _ _ h => h)
theorem RecO.form {w : World} {base : Nat} {v : Value} {rs : List (List Nat)} (h : RecO w base v rs) : ∃ a cap, v = .slice a rs.length cap ∧ Recb w base a rs.length rs := by
  obtain ⟨vs, h1, h2, h3⟩ := h
  obtain ⟨a, cap, hv, hc, hm, hn, hs⟩ := h1.shape
  rw [h2] at hv hc
  refine ⟨a, cap, hv, rfl, ?_⟩
  by_cases h0 : rs.length = 0
  · exact .inl h0
  · right
    cases a with
    | none =>
      have := (hn rfl).1
      rw [this] at h2
      exact absurd h2.symm (by simpa using h0)
    | some x =>
      obtain ⟨g, rfl, hg, _, hcell⟩ := hs x rfl
      refine ⟨g, 0, rfl, hg, fun i r hr => ?_⟩
      have hi : i < rs.length := (List.getElem?_eq_some_iff.1 hr).1
      have hx : vs[i]? = some (vs[i]'(by omega)) := List.getElem?_eq_getElem (by omega)
      obtain ⟨aa, nn, cc, e, hrow, _, _, _, hb⟩ := (h3 i _ r hx hr).slice
      exact ⟨aa, nn, cc, by rw [Nat.zero_add, ← e]; exact hcell i _ hx, hrow, hb⟩
theorem Recb.tail {w : World} {base g off n : Nat} {h : List Nat} {rs : List (List Nat)} (hr : Recb w base (some ⟨g, off, none⟩) (n + 1) (h :: rs)) : Recb w base (some ⟨g, off + 1, none⟩) n rs := by
  obtain ⟨h1, h2⟩ := hr
  refine ⟨by simpa using h1, ?_⟩
  rcases h2 with h2 | ⟨g', off', e, hg, hc⟩
  · omega
  · simp only [Option.some.injEq, Addr.mk.injEq] at e
    obtain ⟨rfl, rfl, _⟩ := e
    refine .inr ⟨g, off + 1, rfl, hg, fun i r hi => ?_⟩
    obtain ⟨aa, nn, cc, hx, hrow, hb⟩ := hc (i + 1) r (by simpa using hi)
    exact ⟨aa, nn, cc, by rw [show off + 1 + i = off + (i + 1) by omega]; exact hx, hrow, hb⟩

/-- what was found in an area -/
structure Found (w : World) (base : Nat) (bs : List Nat) (k : Nat) (f : Value) : Prop where
  is : match Wa.whole bs k with
    | some (gn, rs, en) => ∃ a cap, f = .agg #[.int .i64 (bs.length : Nat), .int .i64 (en : Nat), .bool true, .int .u64 (gn : Nat), .slice a rs.length cap] ∧ Recb w base a rs.length rs
    | none => f = .agg #[.int .i64 (bs.length : Nat), .int .i64 0, .bool false, .int .u64 0, .slice none 0 0]
  stop : Fr.Stop bs k

/-- an error stays where only a block is written that is no fault -/
theorem Errv.frm {w w' : World} {n : Int} {g : Nat} {C : Array Value} {t : TypeId} {mk : Nat × Nat} (hf : Frm (· = g) w w') (hh : w.heap[g]? = some (.cells C t mk)) (hC : C.size ≠ 2) : ∀ {qs : List ByteArray} {v : Value}, Errv w n qs v → Errv w' n qs v
  | [], _, h => h
  | _ :: _, _, ⟨b, u, h1, h2, h3⟩ => ⟨b, u, h1, by
      rw [hf.block b (heap_lt h2) (fun e => by
        rw [e, hh] at h2
        simp only [Option.some.injEq, Obj.cells.injEq] at h2
        rw [h2.1] at hC
        exact hC rfl)]
      exact h2, Errv.frm hf hh hC h3⟩
theorem Err.frm {w w' : World} {c g : Nat} {v : Value} {C : Array Value} {t : TypeId} {mk : Nat × Nat} (h : Err w c v) (hf : Frm (· = g) w w') (hh : w.heap[g]? = some (.cells C t mk)) (hC : C.size ≠ 2) : Err w' c v := by
  rcases h with h | ⟨h, qs, hv⟩
  · exact .inl h
  · exact .inr ⟨h, qs, hv.frm hf hh hC⟩

theorem five (w : World) (g : Nat) (a0 a1 a2 a3 a4 x0 x1 x2 x3 x4 : Value) (hh : w.heap[g]? = some (.cells #[a0, a1, a2, a3, a4] 54 (0, 0))) :
    (((((w.setCell ⟨g, 0, none⟩ x0).setCell ⟨g, 1, none⟩ x1).setCell ⟨g, 2, none⟩ x2).setCell ⟨g, 3, none⟩ x3).setCell ⟨g, 4, none⟩ x4).heap[g]? = some (.cells #[x0, x1, x2, x3, x4] 54 (0, 0)) ∧
    Frm (· = g) w (((((w.setCell ⟨g, 0, none⟩ x0).setCell ⟨g, 1, none⟩ x1).setCell ⟨g, 2, none⟩ x2).setCell ⟨g, 3, none⟩ x3).setCell ⟨g, 4, none⟩ x4) :=
  ⟨heap_setCell_same _ g 4 _ 54 _ (heap_setCell_same _ g 3 _ 54 _ (heap_setCell_same _ g 2 _ 54 _ (heap_setCell_same _ g 1 _ 54 _ (heap_setCell_same w g 0 _ 54 _ hh)))),
   ((((Frm.one _ _ _ _).trans (Frm.one _ _ _ _)).trans (Frm.one _ _ _ _)).trans (Frm.one _ _ _ _)).trans (Frm.one _ _ _ _)⟩
theorem cells5 {w : World} {g : Nat} {x0 x1 x2 x3 x4 : Value} (hh : w.heap[g]? = some (.cells #[x0, x1, x2, x3, x4] 54 (0, 0))) : w.cell? ⟨g, 0, none⟩ = some x0 ∧ w.cell? ⟨g, 1, none⟩ = some x1 ∧ w.cell? ⟨g, 2, none⟩ = some x2 ∧ w.cell? ⟨g, 3, none⟩ = some x3 ∧ w.cell? ⟨g, 4, none⟩ = some x4 ∧ ∀ i, w.frozen? ⟨g, i, none⟩ = false :=
  ⟨cell_of_heap hh rfl, cell_of_heap hh rfl, cell_of_heap hh rfl, cell_of_heap hh rfl, cell_of_heap hh rfl, fun _ => frozen_heap hh⟩

set_option maxHeartbeats 1000000 in
theorem look_lost (g : Nat) (S : Nat → Prop) (d : DS) (k : Int) (w : World) (h : Dk w S g d) (hk : k = 0 ∨ k = 1) (hl : d.lost = true) :
    Calls Tryd.prog 23 #[.pointer (some ⟨g, 0, none⟩), .int .i64 k] w fun e w' => ∃ f v, e = .returned (.tuple #[f, v]) ∧ Err w' 12 v ∧ Below w.heap.size w w' := by
  have hB : Below w.heap.size w (w.alloc (.cells #[.int .i64 0, .int .i64 0, .bool false, .int .u64 0, .slice none 0 0] 54)) := below_new _ _
  have hrd := dread_any g S d k _ (h.later hB)
  have e1 : d.read k = ([], 12) := by unfold DS.read; rw [if_neg (fun h => h hk), if_pos hl]
  rw [e1] at hrd
  have HB : Hid (Below _ _ _) := hB
  have hh := heap_new w (.cells #[.int .i64 0, .int .i64 0, .bool false, .int .u64 0, .slice none 0 0] 54)
  have HH : Hid (_ = _) := hh
  clear hB h hh
  go_enter Tryd.func23, Tryd.ntmps23
  go_wp2_with fail
  refine hrd.mono ?_
  clear hrd
  rintro e w1 ⟨v, rfl, ho, hb⟩
  have HB1 : Hid (Below w.heap.size w w1) := HB.out.trans (hb.mono HB.out.size)
  go_wp2_with fail
  refine (new_bad ⟨#[114, 101, 97, 100]⟩ 12 w1 (by omega)).mono ?_
  rintro e w2 ⟨v2, rfl, hv2, hb2⟩
  have HB2 : Hid (Below w.heap.size w w2) := HB1.out.trans (hb2.mono HB1.out.size)
  have hlt : w.heap.size < (w.alloc (.cells #[.int .i64 0, .int .i64 0, .bool false, .int .u64 0, .slice none 0 0] 54)).heap.size := heap_lt HH.out
  have hh2 : w2.heap[w.heap.size]? = some (.cells #[.int .i64 0, .int .i64 0, .bool false, .int .u64 0, .slice none 0 0] 54 (0, 0)) := by
    rw [hb2.block _ (Nat.lt_of_lt_of_le hlt hb.size), hb.block _ hlt]
    exact HH.out
  have c0 := cell_of_heap (i := 0) (v := .int .i64 0) hh2 rfl
  have c1 := cell_of_heap (i := 1) (v := .int .i64 0) hh2 rfl
  have c2 := cell_of_heap (i := 2) (v := .bool false) hh2 rfl
  have c3 := cell_of_heap (i := 3) (v := .int .u64 0) hh2 rfl
  have c4 := cell_of_heap (i := 4) (v := .slice none 0 0) hh2 rfl
  have f0 : ∀ i, w2.frozen? ⟨w.heap.size, i, none⟩ = false := fun i => frozen_heap hh2
  have f00 := f0 0
  have f01 := f0 1
  have f02 := f0 2
  have f03 := f0 3
  have f04 := f0 4
  clear f0 hb hb2 hlt ho
  have HV : Hid (Errv w2 12 _ v2) := hv2
  have HHH : Hid (w2.heap[w.heap.size]? = _) := hh2
  clear hh2 hv2
  go_wp2
  obtain ⟨hW, hfr⟩ := five w2 w.heap.size _ _ _ _ _ (.int .i64 0) (.int .i64 0) (.bool false) (.int .u64 0) (.slice none 0 0) HHH.out
  have HF : Hid (Frm (· = w.heap.size) w2 _) := hfr
  clear c0 c1 c2 c3 c4 hfr
  generalize (((((w2.setCell ⟨w.heap.size, 0, none⟩ (.int .i64 0)).setCell ⟨w.heap.size, 1, none⟩ (.int .i64 0)).setCell ⟨w.heap.size, 2, none⟩ (.bool false)).setCell ⟨w.heap.size, 3, none⟩ (.int .u64 0)).setCell ⟨w.heap.size, 4, none⟩ (.slice none 0 0)) = W at *
  obtain ⟨c0, c1, c2, c3, c4, -⟩ := cells5 hW
  clear hW
  refine bodyPost_ret (by simp [results, Tryd.results23, go_sem, c0, c1, c2, c3, c4]; try rfl) rfl ?_
  exact ⟨_, v2, rfl, .inr ⟨by decide, _, HV.out.frm HF.out HHH.out (by decide)⟩, HB2.out.trans (HF.out.below HB2.out.size (fun k hk => by omega))⟩
end Go.Proofs.YtmlpneiadkngaaaDoor
