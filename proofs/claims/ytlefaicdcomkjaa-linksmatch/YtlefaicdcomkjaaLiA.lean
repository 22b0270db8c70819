/- A log in memory; contracts of the small functions. -/
import Derived.Test.YtlefaicdcomkjaaEnM
import Derived.Test.YtlefaicdcomkjaaLiM
import Derived.Test.YtlefaicdcomkjaaDz
import Derived.Lib.MinMax
namespace Go.Proofs.Ytlefaicdcomkjaa
open Go Go.RowKit
set_option linter.unusedVariables false
set_option linter.unusedSimpArgs false

/-- an entry, its lists as values and as what they are -/
structure Ev where
  ep : Int
  kd : Int
  tid : Id
  plain : Bool
  v1 : Value
  v2 : Value
  id : Id
  code : Int
  l1 : List Rdv
  l2 : List Wrv
abbrev earr (e : Ev) : Array Value := #[.int .u64 e.ep, .int .i64 e.kd, .int .i64 e.tid.1, .int .u64 e.tid.2, .bool e.plain, e.v1, e.v2, .int .i64 e.id.1, .int .u64 e.id.2, .int .i64 e.code]
abbrev evv (e : Ev) : Value := .agg (earr e)
def Ev.cells (e : Ev) : List Value := [.int .u64 e.ep, .int .i64 e.kd, .int .i64 e.tid.1, .int .u64 e.tid.2, .bool e.plain, e.v1, e.v2, .int .i64 e.id.1, .int .u64 e.id.2, .int .i64 e.code]
/-- its lists in memory -/
structure Ev.mem (w : World) (e : Ev) : Prop where
  r : w.ownsRow 0 95 2 e.v1 e.l1.length (e.l1.flatMap Rdv.cells)
  w : w.ownsRow 0 98 3 e.v2 e.l2.length (e.l2.flatMap Wrv.cells)
  f : Fine e.l1 e.l2
  h1 : e.l1.length ≤ 1000
  h2 : e.l2.length ≤ 1000
theorem Ev.mem.later {w w' : World} {e : Ev} (h : e.mem w) (hb : Below w.heap.size w w') : e.mem w' := ⟨owns_later h.r hb, owns_later h.w hb, h.f, h.h1, h.h2⟩
/-- a log: its block, the block of its entries -/
structure Lg (w : World) (g : Nat) (ob : Option Nat) (L : List Ev) : Prop where
  box : ∃ v, w.heap[g]? = some (.cells #[v] 77 (0, 0)) ∧ w.ownsRow 0 45 10 v L.length (L.flatMap Ev.cells) ∧ v.ownBlock = ob
  mem : ∀ e ∈ L, e.mem w
theorem Lg.later {w w' : World} {g : Nat} {ob : Option Nat} {L : List Ev} (h : Lg w g ob L) (hb : Below w.heap.size w w') : Lg w' g ob L := by
  obtain ⟨v, h1, h2, h3⟩ := h.box
  exact ⟨⟨v, keepc hb h1, owns_later h2 hb, h3⟩, fun e he => (h.mem e he).later hb⟩
theorem Lg.drews {w : World} {g : Nat} {ob : Option Nat} {L : List Ev} (h : Lg w g ob L) (n : Nat) : Lg (w.drewN n) g ob L := h.later ⟨rfl, rfl, rfl, Nat.le_refl _, fun _ _ => rfl⟩
theorem Lg.lt {w : World} {g : Nat} {ob : Option Nat} {L : List Ev} (h : Lg w g ob L) : g < w.heap.size := by
  obtain ⟨v, h1, _⟩ := h.box
  exact (Array.getElem?_eq_some_iff.1 h1).1
theorem ev_at {w : World} {v : Value} {L : List Ev} (h : w.ownsRow 0 45 10 v L.length (L.flatMap Ev.cells)) : ∃ a c, v = .slice a L.length c ∧ L.length ≤ c ∧ c ≤ maxLen ∧ (a = none → c = 0 ∧ L = []) ∧ (0 < L.length → ∃ b, a = some ⟨b, 0, none⟩ ∧ ∀ i e, L[i]? = some e → ∀ k, k < 10 → w.cell? ⟨b, i * 10 + k, none⟩ = (Ev.cells e)[k]?) := by
  obtain ⟨a, c, h1, h2, h3, h4, h5⟩ := owns_at Ev.cells 10 (fun _ => rfl) h
  refine ⟨a, c, h1, h2, h3, h4, fun hl => ?_⟩
  rcases h.2 with ⟨_, h0⟩ | ⟨g, cap, cur, hv, hg, hh, hn, hm, hs, ht⟩
  · omega
  · obtain ⟨b, off, h6, h7⟩ := h5 hl
    rw [h1, h6] at hv
    simp only [Value.slice.injEq, Option.some.injEq, Addr.mk.injEq] at hv
    obtain ⟨⟨rfl, rfl, _⟩, _⟩ := hv
    exact ⟨b, h6, fun i e he k hk => by have := h7 i e he k hk; rwa [Nat.zero_add] at this⟩
theorem Lg.cell {w : World} {g : Nat} {ob : Option Nat} {L : List Ev} (h : Lg w g ob L) : ∃ a c, w.heap[g]? = some (.cells #[.slice a L.length c] 77 (0, 0)) ∧ w.ownsRow 0 45 10 (.slice a L.length c) L.length (L.flatMap Ev.cells) ∧ w.cell? ⟨g, 0, none⟩ = some (.slice a L.length c) ∧ (Value.slice a L.length c).ownBlock = ob := by
  obtain ⟨v, h1, h2, h3⟩ := h.box
  obtain ⟨a, c, rfl, -⟩ := ev_at h2
  exact ⟨a, c, h1, h2, cell_of_heap h1 rfl, h3⟩
/-- the epochs and Seqs of entries -/
def loL (L : List Ev) : Lo := L.map fun e => (e.ep, e.id.2)
theorem loL_length (L : List Ev) : (loL L).length = L.length := by simp [loL]

theorem new_any (w : World) : Calls Try.prog 7 #[] w fun e w' => e = .returned (.pointer (some ⟨w.heap.size, 0, none⟩)) ∧ Lg w' w.heap.size none [] ∧ Below w.heap.size w w' := by
  go_enter Try.func7, Try.ntmps7
  go_wp2
  go_ret
  exact ⟨rfl, ⟨⟨_, heap_alloc_new _ _, World.ownsRow_nil _ _ _ _, rfl⟩, fun e he => by simp at he⟩, (Below.refl _ _).alloc (Nat.le_refl _) _⟩
theorem all_any (g : Nat) (v : Value) (w : World) (h : w.cell? ⟨g, 0, none⟩ = some v) : Calls Try.prog 41 #[.pointer (some ⟨g, 0, none⟩)] w fun e w' => e = .returned v ∧ w' = w := by
  go_enter Try.func41, Try.ntmps41
  go_wp2
  go_ret
  exact ⟨rfl, rfl⟩
theorem all_nil (w : World) : Calls Try.prog 41 #[.pointer none] w fun e w' => e = .returned (.slice none 0 0) ∧ w' = w := by
  go_enter Try.func41, Try.ntmps41
  go_wp2
  go_ret
  exact ⟨rfl, rfl⟩
theorem len_any (g : Nat) (ob : Option Nat) (L : List Ev) (w : World) (h : Lg w g ob L) : Calls Try.prog 27 #[.pointer (some ⟨g, 0, none⟩)] w fun e w' => e = .returned (.int .i64 (L.length : Nat)) ∧ w' = w := by
  obtain ⟨a, c, -, -, c0, -⟩ := h.cell
  have h1 := all_any g _ w c0
  go_enter Try.func27, Try.ntmps27
  go_wp2_with (first | (go_at_call 41; refine h1.mono ?_; rintro e w' ⟨rfl, rfl⟩) | fail)
  go_ret
  exact ⟨rfl, rfl⟩
theorem len_nil (w : World) : Calls Try.prog 27 #[.pointer none] w fun e w' => e = .returned (.int .i64 0) ∧ w' = w := by
  go_enter Try.func27, Try.ntmps27
  go_wp2_with (first | (go_at_call 41; refine (all_nil w).mono ?_; rintro e w' ⟨rfl, rfl⟩) | fail)
  go_ret
  exact ⟨rfl, rfl⟩
/-- is there an entry of that number? does a piece stand behind it without a gap? -/
def hasB (n : Nat) (i : Int) : Bool := decide (1 ≤ i) && decide (i ≤ n)
def reachB (n : Nat) (i : Int) : Bool := decide (0 ≤ i) && decide (i ≤ n)
theorem has_gen (p : Option Addr) (n : Nat) (i : Int) (w : World) (h : Calls Try.prog 27 #[.pointer p] w fun e w' => e = .returned (.int .i64 (n : Nat)) ∧ w' = w) : Calls Try.prog 35 #[.pointer p, .int .i64 i] w fun e w' => e = .returned (.bool (hasB n i)) ∧ w' = w := by
  by_cases h1 : 1 ≤ i
  · have HE : Hid (hasB n i = decide (i ≤ n)) := by simp [Hid, hasB, h1]
    go_enter Try.func35, Try.ntmps35
    go_wp2_with (first | (go_at_call 27; refine h.mono ?_; rintro e w' ⟨rfl, rfl⟩) | fail)
    go_ret
    exact ⟨by rw [HE.out]; rfl, rfl⟩
  · have HE : Hid (hasB n i = false) := by simp [Hid, hasB, h1]
    have hd : decide (1 ≤ i) = false := by simpa using h1
    go_enter Try.func35, Try.ntmps35
    go_wp2
    go_ret
    exact ⟨by rw [HE.out]; rfl, rfl⟩
theorem reach_gen (p : Option Addr) (n : Nat) (i : Int) (w : World) (h : Calls Try.prog 27 #[.pointer p] w fun e w' => e = .returned (.int .i64 (n : Nat)) ∧ w' = w) : Calls Try.prog 34 #[.pointer p, .int .i64 i] w fun e w' => e = .returned (.bool (reachB n i)) ∧ w' = w := by
  by_cases h1 : 0 ≤ i
  · have HE : Hid (reachB n i = decide (i ≤ n)) := by simp [Hid, reachB, h1]
    go_enter Try.func34, Try.ntmps34
    go_wp2_with (first | (go_at_call 27; refine h.mono ?_; rintro e w' ⟨rfl, rfl⟩) | fail)
    go_ret
    exact ⟨by rw [HE.out]; rfl, rfl⟩
  · have HE : Hid (reachB n i = false) := by simp [Hid, reachB, h1]
    have hd : decide (0 ≤ i) = false := by simpa using h1
    go_enter Try.func34, Try.ntmps34
    go_wp2
    go_ret
    exact ⟨by rw [HE.out]; rfl, rfl⟩
theorem has_any (g : Nat) (ob : Option Nat) (L : List Ev) (i : Int) (w : World) (h : Lg w g ob L) : Calls Try.prog 35 #[.pointer (some ⟨g, 0, none⟩), .int .i64 i] w fun e w' => e = .returned (.bool (hasB L.length i)) ∧ w' = w := has_gen _ _ _ _ (len_any g ob L w h)
theorem reach_any (g : Nat) (ob : Option Nat) (L : List Ev) (i : Int) (w : World) (h : Lg w g ob L) : Calls Try.prog 34 #[.pointer (some ⟨g, 0, none⟩), .int .i64 i] w fun e w' => e = .returned (.bool (reachB L.length i)) ∧ w' = w := reach_gen _ _ _ _ (len_any g ob L w h)
theorem has_nil (i : Int) (w : World) : Calls Try.prog 35 #[.pointer none, .int .i64 i] w fun e w' => e = .returned (.bool (hasB 0 i)) ∧ w' = w := has_gen _ 0 _ _ (len_nil w)
theorem reach_nil (i : Int) (w : World) : Calls Try.prog 34 #[.pointer none, .int .i64 i] w fun e w' => e = .returned (.bool (reachB 0 i)) ∧ w' = w := reach_gen _ 0 _ _ (len_nil w)
theorem hasB_zero (i : Int) : hasB 0 i = false := by unfold hasB; by_cases h : 1 ≤ i <;> simp [h]; omega
theorem epoch_nil (i : Int) (w : World) : Calls Try.prog 14 #[.pointer none, .int .i64 i] w fun e w' => e = .returned (.int .u64 0) ∧ w' = w := by
  have h := has_nil i w
  rw [hasB_zero] at h
  go_enter Try.func14, Try.ntmps14
  go_wp2_with (first | (go_at_call 35; refine h.mono ?_; rintro e w' ⟨rfl, rfl⟩) | fail)
  go_ret
  exact ⟨rfl, rfl⟩
def epL (L : List Ev) (i : Int) : Int := epoL (loL L) i
set_option maxRecDepth 100000 in
theorem epoch_any (g : Nat) (ob : Option Nat) (L : List Ev) (i : Int) (w : World) (h : Lg w g ob L) (hl : L.length ≤ 1000000) : Calls Try.prog 14 #[.pointer (some ⟨g, 0, none⟩), .int .i64 i] w fun e w' => e = .returned (.int .u64 (epL L i)) ∧ w' = w := by
  have h1 := has_any g ob L i w h
  by_cases hc : 1 ≤ i ∧ i ≤ L.length
  · obtain ⟨j, rfl⟩ : ∃ j : Nat, i = (j : Nat) + 1 := ⟨(i - 1).toNat, by omega⟩
    have hj : j < L.length := by omega
    have hb : hasB L.length ((j : Nat) + 1) = true := by simp [hasB]; omega
    rw [hb] at h1
    obtain ⟨a, c, -, ho, c0, -⟩ := h.cell
    obtain ⟨a', c', e, -, -, -, h5⟩ := ev_at ho
    simp only [Value.slice.injEq, true_and] at e
    obtain ⟨rfl, rfl⟩ := e
    obtain ⟨b, rfl, h6⟩ := h5 (by omega)
    have hx : L[j]? = some L[j] := List.getElem?_eq_getElem hj
    have HE : Hid (epL L ((j : Nat) + 1) = L[j].ep) := by
      rw [Hid, epL, epoL, loL_length, if_pos (by omega), show (((j : Nat) + 1 : Int)).toNat - 1 = j by omega, loL, List.getElem?_map, hx]
      rfl
    generalize L[j] = x at *
    have c1 : w.cell? ⟨b, j * 10, none⟩ = some (.int .u64 x.ep) := h6 j x hx 0 (by omega)
    have hs : ((j : Nat) : Int) + 1 - 1 = (j : Nat) := by omega
    clear h6 h5 ho hx h hc hb
    go_enter Try.func14, Try.ntmps14
    go_wp2_with (first | (go_at_call 35; refine h1.mono ?_; rintro e w' ⟨rfl, rfl⟩) | fail)
    go_ret
    exact ⟨by rw [HE.out]; rfl, rfl⟩
  · have hb : hasB L.length i = false := by
      unfold hasB
      by_cases h1 : 1 ≤ i
      · simp [h1]; omega
      · simp [h1]
    have HE : Hid (epL L i = 0) := by rw [Hid, epL, epoL, loL_length, if_neg hc]
    rw [hb] at h1
    clear hc hb
    go_enter Try.func14, Try.ntmps14
    go_wp2_with (first | (go_at_call 35; refine h1.mono ?_; rintro e w' ⟨rfl, rfl⟩) | fail)
    go_ret
    exact ⟨by rw [HE.out]; rfl, rfl⟩
end Go.Proofs.Ytlefaicdcomkjaa
