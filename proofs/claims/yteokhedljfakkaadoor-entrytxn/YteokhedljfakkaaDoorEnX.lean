/- What follows for a transaction's parts. -/
import Derived.Test.YteokhedljfakkaaDoorEnW
import Derived.Test.YteokhedljfakkaaDoorEnN
import Derived.Test.YteokhedljfakkaaDoorEnR
namespace Go.Proofs.YteokhedljfakkaaDoor
open Go Go.RowKit Go.ChangeShapes Go.WideShapes Go.ChangeAt
set_option linter.unusedVariables false
set_option linter.unusedSimpArgs false

def sumR (n : Int) (S : List Nat) (l : List Rdv) : Nat := (S.map fun (j : Nat) => (partR n j l).length).sum
def sumW (n : Int) (S : List Nat) (l : List Wrv) : Nat := (S.map fun (j : Nat) => (partW n j l).length).sum
theorem sumR_next {n : Int} {S : List Nat} {k x : Nat} (l : List Rdv) (h : S[k]? = some x) : sumR n (S.take (k + 1)) l = sumR n (S.take k) l + (partR n x l).length := by
  obtain ⟨hk, rfl⟩ := List.getElem?_eq_some_iff.1 h
  unfold sumR
  rw [List.take_succ_eq_append_getElem hk, List.map_append, List.sum_append]
  simp
theorem sumW_next {n : Int} {S : List Nat} {k x : Nat} (l : List Wrv) (h : S[k]? = some x) : sumW n (S.take (k + 1)) l = sumW n (S.take k) l + (partW n x l).length := by
  obtain ⟨hk, rfl⟩ := List.getElem?_eq_some_iff.1 h
  unfold sumW
  rw [List.take_succ_eq_append_getElem hk, List.map_append, List.sum_append]
  simp
theorem sumR_le (n : Int) (S : List Nat) (l : List Rdv) : sumR n S l ≤ S.length * l.length := by
  induction S with
  | nil => simp [sumR]
  | cons x S ih =>
    have h1 := partR_le n x l
    have h2 : sumR n (x :: S) l = (partR n x l).length + sumR n S l := by simp [sumR]
    rw [h2, List.length_cons, Nat.succ_mul]
    omega
theorem sumW_le (n : Int) (S : List Nat) (l : List Wrv) : sumW n S l ≤ S.length * l.length := by
  induction S with
  | nil => simp [sumW]
  | cons x S ih =>
    have h1 := partW_le n x l
    have h2 : sumW n (x :: S) l = (partW n x l).length + sumW n S l := by simp [sumW]
    rw [h2, List.length_cons, Nat.succ_mul]
    omega
theorem partR_nat (n : Int) (j : Nat) (l : List Rdv) : partR n j l = l.filter fun r => shard r.key n == j := by
  unfold partR
  apply List.filter_congr
  intro r _
  rw [Bool.eq_iff_iff]
  simp only [beq_iff_eq]
  omega
theorem partW_nat (n : Int) (j : Nat) (l : List Wrv) : partW n j l = l.filter fun r => shard r.key n == j := by
  unfold partW
  apply List.filter_congr
  intro r _
  rw [Bool.eq_iff_iff]
  simp only [beq_iff_eq]
  omega
theorem inn_of {ks : List ByteArray} {n : Int} {s : ByteArray} (h : s ∈ ks) : inn ks n (shard s n) = true := by
  unfold inn
  rw [List.any_eq_true]
  exact ⟨s, h, by simp⟩
theorem sumR_all (n : Int) (l1 : List Rdv) (l2 : List Wrv) : sumR n (selN (inn (tkeys l1 l2) n)) l1 = l1.length := by
  have h := parts_all (fun r : Rdv => shard r.key n) (inn (tkeys l1 l2) n) l1 (fun r hr => ⟨by have := shard_lt r.key n; have := shn_le n; omega, inn_of (by unfold tkeys; rw [List.mem_append]; exact .inl (List.mem_map_of_mem hr))⟩)
  unfold sumR
  rw [← h]
  congr 1
  apply List.map_congr_left
  intro j _
  rw [partR_nat]
theorem sumW_all (n : Int) (l1 : List Rdv) (l2 : List Wrv) : sumW n (selN (inn (tkeys l1 l2) n)) l2 = l2.length := by
  have h := parts_all (fun r : Wrv => shard r.key n) (inn (tkeys l1 l2) n) l2 (fun r hr => ⟨by have := shard_lt r.key n; have := shn_le n; omega, inn_of (by unfold tkeys; rw [List.mem_append]; exact .inr (List.mem_map_of_mem hr))⟩)
  unfold sumW
  rw [← h]
  congr 1
  apply List.map_congr_left
  intro j _
  rw [partW_nat]
theorem part_pos {n : Int} {l1 : List Rdv} {l2 : List Wrv} {x : Nat} (h : x ∈ selN (inn (tkeys l1 l2) n)) : 0 < (partR n x l1).length + (partW n x l2).length := by
  have h1 : inn (tkeys l1 l2) n x = true := (List.mem_filter.1 h).2
  unfold inn at h1
  rw [List.any_eq_true] at h1
  obtain ⟨s, hs, he⟩ := h1
  have he' : shard s n = x := by simpa using he
  unfold tkeys at hs
  rw [List.mem_append] at hs
  rcases hs with hs | hs
  · obtain ⟨r, hr, rfl⟩ := List.mem_map.1 hs
    have : r ∈ partR n x l1 := by rw [partR_nat]; exact List.mem_filter.2 ⟨hr, by simpa using he'⟩
    have := List.length_pos_of_mem this
    omega
  · obtain ⟨r, hr, rfl⟩ := List.mem_map.1 hs
    have : r ∈ partW n x l2 := by rw [partW_nat]; exact List.mem_filter.2 ⟨hr, by simpa using he'⟩
    have := List.length_pos_of_mem this
    omega
theorem selN_len (B : Nat → Bool) : (selN B).length ≤ 4 := by
  have := List.length_filter_le B (List.range 4)
  simpa [selN] using this
/-- whole numbers, where they lie -/
def Ints (w : World) (a : Option Addr) (S : List Nat) : Prop := ∀ j x, S[j]? = some x → ∃ g, a = some ⟨g, 0, none⟩ ∧ w.cell? ⟨g, j, none⟩ = some (.int .i64 (x : Nat))
theorem Ints.later {w wx : World} {a : Option Addr} {S : List Nat} (h : Ints w a S) (hb : Below w.heap.size w wx) : Ints wx a S := by
  intro j x hx
  obtain ⟨g, e, hc⟩ := h j x hx
  exact ⟨g, e, cell_later hb hc⟩
theorem ints_of_own {w : World} {b : Nat} {v : Value} {B : Nat → Bool} (h : OwnV w b 3 v (sel B 4)) : ∃ a c, v = .slice a (selN B).length c ∧ Ints w a (selN B) := by
  have e : sel B 4 = (selN B).map fun (i : Nat) => Value.int .i64 (i : Nat) := rfl
  rw [e] at h
  obtain ⟨a, c, rfl, _, _, hz, hc⟩ := h.shape
  rw [List.length_map]
  refine ⟨a, c, rfl, fun j x hx => ?_⟩
  cases a with
  | none => have := (hz rfl).1; rw [List.map_eq_nil_iff] at this; rw [this] at hx; simp at hx
  | some ad =>
    obtain ⟨g, rfl, _, _, hcc⟩ := hc ad rfl
    exact ⟨g, rfl, hcc j _ (by simp [hx])⟩
theorem owns_len {w : World} {base : Nat} {e : TypeId} {k : Nat} {a : Option Addr} {n c m : Nat} {xs : List Value} (h : w.ownsRow base e k (.slice a n c) m xs) : n = m := by
  rcases h.2 with ⟨e, h2⟩ | ⟨g, cap, cur, e, _⟩
  · simp only [Value.slice.injEq] at e
    omega
  · simp only [Value.slice.injEq] at e
    exact e.2.1
theorem ten_keys {n : Nat} {S : Nat → Rdv} (h : ∀ i, i < n → (S i).key.size ≤ maxLen) : ∀ x ∈ tenR n S, x.key.size ≤ maxLen := by
  intro x hx
  simp only [tenR, List.mem_map, List.mem_range] at hx
  obtain ⟨i, hi, rfl⟩ := hx
  exact h i (by omega)
theorem ten_keysW {n : Nat} {S : Nat → Wrv} (h : ∀ i, i < n → (S i).key.size ≤ maxLen ∧ (S i).val.size ≤ maxLen) : ∀ x ∈ tenW n S, x.key.size ≤ maxLen := by
  intro x hx
  simp only [tenW, List.mem_map, List.mem_range] at hx
  obtain ⟨i, hi, rfl⟩ := hx
  exact (h i (by omega)).1
theorem ten_valsW {n : Nat} {S : Nat → Wrv} (h : ∀ i, i < n → (S i).key.size ≤ maxLen ∧ (S i).val.size ≤ maxLen) : ∀ x ∈ tenW n S, x.val.size ≤ maxLen := by
  intro x hx
  simp only [tenW, List.mem_map, List.mem_range] at hx
  obtain ⟨i, hi, rfl⟩ := hx
  exact (h i (by omega)).2
theorem Fine.partR {l1 : List Rdv} {l2 : List Wrv} (h : Fine l1 l2) (n s : Int) : Fine (partR n s l1) (partW n s l2) :=
  ⟨fun x hx => h.r x (List.mem_filter.1 hx).1, fun x hx => h.k x (List.mem_filter.1 hx).1, fun x hx => h.v x (List.mem_filter.1 hx).1⟩

/-- the document's transaction in memory -/
structure Ty (w : World) (b1 : Nat) (a1 : Option Addr) (n1 c1 : Nat) (a2 : Option Addr) (n2 c2 : Nat) (l1 : List Rdv) (l2 : List Wrv) : Prop where
  r : w.ownsRow b1 66 2 (.slice a1 n1 c1) l1.length (l1.flatMap Rdv.cells)
  w : w.ownsRow b1 69 3 (.slice a2 n2 c2) l2.length (l2.flatMap Wrv.cells)
  f : Fine l1 l2
  h1 : l1.length ≤ 10
  h2 : l2.length ≤ 10
theorem Ty.later {w w' : World} {b1 : Nat} {a1 : Option Addr} {n1 c1 : Nat} {a2 : Option Addr} {n2 c2 : Nat} {l1 : List Rdv} {l2 : List Wrv} (h : Ty w b1 a1 n1 c1 a2 n2 c2 l1 l2) (hb : Below w.heap.size w w') : Ty w' b1 a1 n1 c1 a2 n2 c2 l1 l2 := ⟨owns_later h.r hb, owns_later h.w hb, h.f, h.h1, h.h2⟩
theorem rkeys_let (id : Id) (plain : Bool) (b1 : Nat) (a1 : Option Addr) (n1 c1 : Nat) (a2 : Option Addr) (n2 c2 : Nat) (l1 : List Rdv) (l2 : List Wrv) (w : World) (h : Ty w b1 a1 n1 c1 a2 n2 c2 l1 l2) :
    Calls Tryd.prog 25 #[txnv id plain (.slice a1 n1 c1) (.slice a2 n2 c2)] w fun e w' => (∃ u, e = .returned u ∧ OwnV w' w.heap.size 9 u ((tkeys l1 l2).map Value.string)) ∧ Below w.heap.size w w' := by
  obtain ⟨hr, hw, hf, h1, h2⟩ := h
  obtain rfl := owns_len hr
  obtain rfl := owns_len hw
  exact rkeys_any id plain b1 a1 c1 a2 c2 l1 l2 w ⟨hr, hw, hf, h1, h2⟩
theorem rsame_let (id : Id) (plain : Bool) (p q : Nat) (a1 b1 : Option Addr) (n1 m1 c1 d1 : Nat) (a2 b2 : Option Addr) (n2 m2 c2 d2 : Nat) (l1 : List Rdv) (l2 : List Wrv) (w : World) (h : Ty w p a1 n1 c1 a2 n2 c2 l1 l2) (h' : Ty w q b1 m1 d1 b2 m2 d2 l1 l2) :
    Calls Tryd.prog 21 #[txnv id plain (.slice a1 n1 c1) (.slice a2 n2 c2), txnv id plain (.slice b1 m1 d1) (.slice b2 m2 d2)] w fun e w' => e = .returned (.bool true) ∧ Below w.heap.size w w' := by
  obtain ⟨hr, hw, hf, h1, h2⟩ := h
  obtain ⟨hr', hw', -, -, -⟩ := h'
  obtain rfl := owns_len hr
  obtain rfl := owns_len hw
  obtain rfl := owns_len hr'
  obtain rfl := owns_len hw'
  exact rsame_any id plain p q a1 b1 c1 d1 a2 b2 c2 d2 l1 l2 w ⟨hr, hw, hf, h1, h2⟩ ⟨hr', hw', hf, h1, h2⟩

abbrev txiv (t : Txi) : Value := .agg #[.int .i64 t.id.1, .int .u64 t.id.2, .bool t.plain, .slice t.ra t.rn t.rc, .slice t.wa t.wn t.wc]
set_option maxRecDepth 100000 in
theorem open_txi {H : Type} {enc : TypeId × Value → H} {w : World} {base : Nat} {spare : Nat → Bool} {held : Bool} {r : Reach} {b0 : Nat} {v : Value} {d : DataW H} {ps : List MemPlace} (hval : Value.okWide Tryd.prog w r b0 28 v) (hd : DataW.Trod enc Tryd.prog w base spare held 28 v d ps) :
    ∃ e : Txi, v = txiv e ∧ e.ok w := by
  obtain ⟨cs, rfl, hsz⟩ := okWide_struct Tryd.underlying28 hval
  obtain ⟨fuel, hf⟩ := hd
  have hf : DataW.trod enc Tryd.prog w base spare held fuel 28 cs.toList = some (d, ps) := hf
  obtain ⟨e, h1, h2⟩ := open_txnc hf
  refine ⟨e, ?_, h1⟩
  have : cs = e.cells.toArray := by rw [← h2]
  rw [this]
  rfl
end Go.Proofs.YteokhedljfakkaaDoor
