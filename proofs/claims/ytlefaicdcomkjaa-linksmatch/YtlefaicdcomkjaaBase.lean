/- Rows of bytes in memory, and how they stay when a call makes only new memory. -/
import Derived.Test.YtlefaicdcomkjaaProg
import Derived.WalkKit
import Derived.Below
import Derived.OpenShut
import Derived.WalkLawsBesides
import Derived.WalkSpells
import Derived.Lib.SlBytesConst
import Derived.Deep.QuietTactic
import Derived.BigQuiet
import Derived.OwnWalk
import Derived.Laws.OwnMore
import Derived.Laws.AppendOwnNone
import Derived.Deep.RegionHeld3
import Derived.Lib.BufferRead
import Derived.Laws.IdiomStrings
namespace Go.Proofs.Ytlefaicdcomkjaa
open Go.RowKit

/-- bytes, as a slice's elements lie in memory -/
def Row (w : World) (a : Option Addr) (n : Nat) (bs : List Nat) : Prop :=
  bs.length = n ∧ (∀ x ∈ bs, x < 256) ∧ bs.length ≤ maxLen ∧
  (bs = [] ∨ ∃ b off, a = some ⟨b, off, none⟩ ∧ ∀ i, i < bs.length → w.cell? ⟨b, off + i, none⟩ = some (.int .u8 (bs[i]?.getD 0 : Nat)))

theorem cell_of_heap {w : World} {g i : Nat} {cur : Array Value} {e : TypeId} {mk : Nat × Nat} {v : Value} (hh : w.heap[g]? = some (.cells cur e mk)) (hc : cur[i]? = some v) : w.cell? ⟨g, i, none⟩ = some v := by
  simp [World.cell?, hh, hc]

theorem getD_lt (bs : List Nat) (h : ∀ x ∈ bs, x < 256) (i : Nat) : bs[i]?.getD 0 < 256 := by
  by_cases hi : i < bs.length
  · rw [List.getElem?_eq_getElem hi]; exact h _ (List.getElem_mem hi)
  · simp [List.getElem?_eq_none (Nat.le_of_not_lt hi)]

theorem Row.later {w wx : World} {a : Option Addr} {n : Nat} {bs : List Nat} (hr : Row w a n bs) (hb : Below w.heap.size w wx) : Row wx a n bs := by
  obtain ⟨hn, hx, hm, hr⟩ := hr
  refine ⟨hn, hx, hm, ?_⟩
  rcases hr with h | ⟨b, off, h, hc⟩
  · exact .inl h
  · exact .inr ⟨b, off, h, fun i hi => cell_later hb (hc i hi)⟩

theorem Row.drew {w : World} {a : Option Addr} {n : Nat} {bs : List Nat} (hr : Row w a n bs) : Row w.drew a n bs := hr

theorem Row.drews {w : World} {a : Option Addr} {n k : Nat} {bs : List Nat} (hr : Row w a n bs) : Row (w.drewN k) a n bs := hr

theorem Row.part {w : World} {b off m : Nat} {bs : List Nat} (hr : Row w (some ⟨b, off, none⟩) m bs) (lo n : Nat) (h : lo + n ≤ m) :
    Row w (some ⟨b, off + lo, none⟩) n ((bs.drop lo).take n) := by
  obtain ⟨hn, hb, hm, hr⟩ := hr
  refine ⟨by simp; omega, fun x hx => hb x (List.mem_of_mem_drop (List.mem_of_mem_take hx)), by simp; omega, ?_⟩
  rcases hr with rfl | ⟨b', off', h, hc⟩
  · left; simp
  · right
    simp only [Option.some.injEq, Addr.mk.injEq] at h
    obtain ⟨rfl, rfl, _⟩ := h
    refine ⟨_, _, rfl, fun i hi => ?_⟩
    simp at hi
    have := hc (lo + i) (by omega)
    rw [Nat.add_assoc, this, List.getElem?_take_of_lt (by omega), List.getElem?_drop]

theorem Row.take {w : World} {a : Option Addr} {m : Nat} {bs : List Nat} (hr : Row w a m bs) (n : Nat) (h : n ≤ m) : Row w a n (bs.take n) := by
  obtain ⟨hn, hb, hm, hr⟩ := hr
  refine ⟨by simp; omega, fun x hx => hb x (List.mem_of_mem_take hx), by simp; omega, ?_⟩
  rcases hr with rfl | ⟨b, off, h, hc⟩
  · left; simp
  · refine .inr ⟨b, off, h, fun i hi => ?_⟩
    simp at hi
    rw [hc i (by omega), List.getElem?_take_of_lt (by omega)]

theorem Row.at {w : World} {a : Option Addr} {n : Nat} {bs : List Nat} (hr : Row w a n bs) (h : 0 < n) :
    ∃ b off, a = some ⟨b, off, none⟩ ∧ ∀ i, i < n → w.cell? ⟨b, off + i, none⟩ = some (.int .u8 (bs[i]?.getD 0 : Nat)) := by
  obtain ⟨hn, hb, hm, hr⟩ := hr
  subst hn
  rcases hr with rfl | ⟨b, off, h, hc⟩
  · simp at h
  · exact ⟨b, off, h, hc⟩

theorem Row.drop {w : World} {b off m : Nat} {bs : List Nat} (hr : Row w (some ⟨b, off, none⟩) m bs) (lo : Nat) (h : lo ≤ m) :
    Row w (some ⟨b, off + lo, none⟩) (m - lo) (bs.drop lo) := by
  have := hr.part lo (m - lo) (by omega)
  rwa [List.take_of_length_le (by have := hr.1; simp; omega)] at this

theorem Row.empty {w : World} {a : Option Addr} : Row w a 0 [] := ⟨rfl, by simp, by simp, .inl rfl⟩

/-- bytes as cells -/
def cellsOf (bs : List Nat) : List Value := bs.map fun x => .int .u8 (x : Nat)
theorem cellsOf_length (bs : List Nat) : (cellsOf bs).length = bs.length := by simp [cellsOf]

/-- a slice of bytes that the call itself has made: its memory begins at block 'base' or behind -/
def Own (w : World) (base : Nat) (v : Value) (bs : List Nat) : Prop := w.ownsRow base 5 1 v bs.length (cellsOf bs) ∧ (∀ x ∈ bs, x < 256)

theorem Own.slice {w : World} {base : Nat} {v : Value} {bs : List Nat} (h : Own w base v bs) :
    ∃ a n cap, v = .slice a n cap ∧ Row w a n bs ∧ n ≤ cap ∧ cap ≤ maxLen ∧ (a = none → cap = 0) ∧ (∀ x, a = some x → base ≤ x.block) := by
  obtain ⟨⟨hl, h⟩, hb⟩ := h
  rcases h with ⟨rfl, hn⟩ | ⟨g, cap, cur, rfl, hg, hh, hn, hm, hs, ht⟩
  · have : bs = [] := List.length_eq_zero_iff.1 hn
    subst this
    exact ⟨_, _, _, rfl, Row.empty, by simp, by simp, by simp, by simp⟩
  · refine ⟨_, _, _, rfl, ⟨rfl, hb, by omega, .inr ⟨_, _, rfl, fun i hi => ?_⟩⟩, hn, hm, by simp, by simp; exact hg⟩
    have hcur : cur[i]? = some (.int .u8 (bs[i]?.getD 0 : Nat)) := by
      have e : (cur.toList.take (bs.length * 1))[i]? = (cellsOf bs)[i]? := by rw [ht]
      rw [List.getElem?_take_of_lt (by omega)] at e
      rw [Array.getElem?_toList] at e
      rw [e]
      simp [cellsOf, hi]
    simp only [Nat.zero_add]
    simp [World.cell?, hh, hcur]
theorem Own.nil (w : World) (base : Nat) : Own w base (.slice none 0 0) [] := ⟨World.ownsRow_nil _ _ _ _, by simp⟩
theorem Own.alloc {w : World} {base : Nat} {v : Value} {bs : List Nat} (h : Own w base v bs) (o : Obj) : Own (w.alloc o) base v bs := ⟨World.ownsRow.alloc h.1 o, h.2⟩
theorem Own.drew {w : World} {base : Nat} {v : Value} {bs : List Nat} (h : Own w base v bs) : Own w.drew base v bs := h
theorem Own.drewN {w : World} {base : Nat} {v : Value} {bs : List Nat} (h : Own w base v bs) (n : Nat) : Own (w.drewN n) base v bs := h
theorem Own.later {w wx : World} {base : Nat} {v : Value} {bs : List Nat} (h : Own w base v bs) (hb : Below w.heap.size w wx) : Own wx base v bs := by
  obtain ⟨⟨hl, h⟩, hx⟩ := h
  refine ⟨⟨hl, ?_⟩, hx⟩
  rcases h with h | ⟨g, cap, cur, hv, hg, hh, hn⟩
  · exact .inl h
  · exact .inr ⟨g, cap, cur, hv, hg, by rw [hb.block g (by have := Array.getElem?_eq_some_iff.1 hh; exact this.1)]; exact hh, hn⟩
theorem Own.mono {w : World} {base base' : Nat} {v : Value} {bs : List Nat} (h : Own w base v bs) (hb : base' ≤ base) : Own w base' v bs := by
  obtain ⟨⟨hl, h⟩, hx⟩ := h
  refine ⟨⟨hl, ?_⟩, hx⟩
  rcases h with h | ⟨g, cap, cur, hv, hg, hn⟩
  · exact .inl h
  · exact .inr ⟨g, cap, cur, hv, by omega, hn⟩
theorem Own.block {w : World} {base : Nat} {v : Value} {bs : List Nat} (h : Own w base v bs) : ∀ k, v.ownBlock = some k → base ≤ k := by
  obtain ⟨⟨hl, h⟩, hx⟩ := h
  intro k hk
  rcases h with ⟨rfl, _⟩ | ⟨g, cap, cur, rfl, hg, _⟩
  · simp [Value.ownBlock] at hk
  · simp [Value.ownBlock] at hk; omega

theorem Try.info_5 : (Try.prog.info? 5).map (fun i => (i.zero, i.size, i.bytes)) = some (some (.int .u8 0), 1, 1) := by kernel_rfl

theorem cellsOf_row {w : World} {b off m : Nat} {ns : List Nat} (hr : Row w (some ⟨b, off, none⟩) m ns) : ∀ j u, (cellsOf ns)[j]? = some u → w.cell? ((⟨b, off, none⟩ : Addr).add j) = some u := by
  obtain ⟨hn, hb, hm, hr⟩ := hr
  intro j u hj
  rcases hr with rfl | ⟨b', off', h, hc⟩
  · simp [cellsOf] at hj
  · simp only [Option.some.injEq, Addr.mk.injEq] at h
    obtain ⟨rfl, rfl, _⟩ := h
    have hlt : j < ns.length := by
      have := (List.getElem?_eq_some_iff.1 hj).1
      simpa [cellsOf] using this
    have := hc j hlt
    simp [cellsOf, hlt] at hj
    subst hj
    rw [Addr.add_lit]
    simpa [hlt] using this
theorem cellsOf_one {ns : List Nat} : ∀ u ∈ cellsOf ns, u.oneCell' = true := by
  intro u hu
  simp [cellsOf] at hu
  obtain ⟨x, _, rfl⟩ := hu
  rfl
theorem cellsOf_append (xs ns : List Nat) : cellsOf (xs ++ ns) = cellsOf xs ++ cellsOf ns := by simp [cellsOf]

theorem Row.one (w : World) (x : Nat) (hx : x < 256) : Row (w.alloc (.cells #[.int .u8 (x : Nat)] 5)) (some ⟨w.heap.size, 0, none⟩) 1 [x] := by
  refine ⟨rfl, by simpa using hx, by simp [maxLen], .inr ⟨_, _, rfl, fun i hi => ?_⟩⟩
  have : i = 0 := by simpa using hi
  subst this
  simp

theorem Row.new (w : World) (C : Array Value) (e : TypeId) (mk : Nat × Nat) (bs : List Nat) (hC : C.toList = cellsOf bs) (hb : ∀ x ∈ bs, x < 256) (hm : bs.length ≤ maxLen) :
    Row (w.alloc (.cells C e mk)) (some ⟨w.heap.size, 0, none⟩) bs.length bs := by
  refine ⟨rfl, hb, hm, .inr ⟨_, _, rfl, fun i hi => ?_⟩⟩
  have hcur : C[i]? = some (.int .u8 (bs[i]?.getD 0 : Nat)) := by
    rw [← Array.getElem?_toList, hC]
    simp [cellsOf, hi]
  have hh : (w.alloc (.cells C e mk)).heap[w.heap.size]? = some (.cells C e mk) := by
    show (w.heap.push (.cells C e mk))[w.heap.size]? = _
    simp
  simp only [Nat.zero_add]
  exact cell_of_heap hh hcur

/-- a slice of integers that came in: it is nil, or leads to a row of 'cap' cells -/
def IsRow (k : IntKind) (w : World) (a : Option Addr) (len cap : Nat) (zs : List Int) : Prop :=
  (a = none ∧ len = 0 ∧ cap = 0 ∧ zs = []) ∨
  ∃ x, a = some x ∧ len ≤ cap ∧ cap ≤ maxLen ∧ zs.length = cap ∧ (∀ i, i < zs.length → w.cell? (x.add i) = some (.int k (zs.getD i 0))) ∧ ∀ n ∈ zs, (Lit.int k n).wf = true

/-- its first n bytes -/
def firsts (zs : List Int) (n : Nat) : List Nat := (zs.take n).map Int.toNat

theorem IsRow.facts {k : IntKind} {w : World} {a : Option Addr} {len cap : Nat} {zs : List Int} (h : IsRow k w a len cap zs) : len ≤ cap ∧ cap ≤ maxLen ∧ (a = none → cap = 0) := by
  rcases h with ⟨rfl, rfl, rfl, rfl⟩ | ⟨x, rfl, h1, h2, _⟩
  · simp
  · exact ⟨h1, h2, by simp⟩

theorem IsRow.later {k : IntKind} {w wx : World} {a : Option Addr} {len cap : Nat} {zs : List Int} (h : IsRow k w a len cap zs) (hb : Below w.heap.size w wx) : IsRow k wx a len cap zs := by
  rcases h with h | ⟨x, h1, h2, h3, h4, h5, h6⟩
  · exact .inl h
  · exact .inr ⟨x, h1, h2, h3, h4, fun i hi => cell_later hb (h5 i hi), h6⟩

theorem IsRow.addr {k : IntKind} {w : World} {a : Option Addr} {len cap : Nat} {zs : List Int} (h : IsRow k w a len cap zs) (hc : 0 < len) : ∃ b off, a = some ⟨b, off, none⟩ := by
  rcases h with ⟨rfl, rfl, rfl, rfl⟩ | ⟨⟨b, off, spot⟩, rfl, h1, h2, h3, h4, h5⟩
  · omega
  · have hc := h4 0 (by omega)
    have hspot : spot = none := by simpa [Addr.add] using World.cell?_spot hc
    subst hspot
    exact ⟨b, off, rfl⟩

theorem IsRow.row {w : World} {a : Option Addr} {len cap : Nat} {zs : List Int} (h : IsRow .u8 w a len cap zs) (n : Nat) (hn : n ≤ len) : Row w a n (firsts zs n) := by
  by_cases h0 : len = 0
  · subst h0
    have : n = 0 := by omega
    subst this
    exact Row.empty
  · obtain ⟨b, off, rfl⟩ := h.addr (by omega)
    rcases h with ⟨h, _⟩ | ⟨x, hx, h1, h2, h3, h4, h5⟩
    · cases h
    · simp only [Option.some.injEq] at hx
      subst hx
      refine ⟨by simp [firsts]; omega, ?_, by simp [firsts]; omega, .inr ⟨b, off, rfl, fun i hi => ?_⟩⟩
      · intro y hy
        simp only [firsts, List.mem_map] at hy
        obtain ⟨z, hz, rfl⟩ := hy
        have := bounds_u8 (h5 z (List.mem_of_mem_take hz))
        omega
      · simp [firsts] at hi
        have hc := h4 i (by omega)
        rw [Addr.add_lit] at hc
        rw [hc]
        have hil : i < zs.length := by omega
        have hb := bounds_u8 (h5 zs[i] (List.getElem_mem hil))
        have e : (firsts zs n)[i]?.getD 0 = (zs[i]).toNat := by
          simp [firsts, List.getElem?_take_of_lt (show i < n by omega), hil]
        rw [e, Int.toNat_of_nonneg (by omega)]
        simp [hil]

theorem Own.new (w : World) (base : Nat) (hB : base ≤ w.heap.size) (C : Array Value) (bs : List Nat) (hC : C.toList = cellsOf bs) (hb : ∀ x ∈ bs, x < 256) (hm : bs.length ≤ maxLen) :
    Own (w.alloc (.cells C 5)) base (.slice (some ⟨w.heap.size, 0, none⟩) bs.length bs.length) bs := by
  have hsz : C.size = bs.length := by rw [← Array.length_toList, hC, cellsOf_length]
  refine ⟨⟨by rw [cellsOf_length]; omega, .inr ⟨w.heap.size, bs.length, C, rfl, hB, ?_, Nat.le_refl _, hm, by omega, ?_⟩⟩, hb⟩
  · show (w.heap.push (.cells C 5))[w.heap.size]? = _
    simp
  · rw [hC, List.take_of_length_le (by rw [cellsOf_length]; omega)]

/-- bytes as a text -/
def str (bs : List Nat) : ByteArray := ⟨(bs.map UInt8.ofNat).toArray⟩

theorem str_append (xs ys : List Nat) : str (xs ++ ys) = str xs ++ str ys := by
  unfold str
  rw [ByteArray.mk_append_mk]
  simp
theorem str_eq (xs ys : List Nat) (hx : ∀ x ∈ xs, x < 256) (hy : ∀ y ∈ ys, y < 256) : ((str xs).toList == (str ys).toList) = decide (xs = ys) := by
  have inj : ∀ (xs ys : List Nat), (∀ x ∈ xs, x < 256) → (∀ y ∈ ys, y < 256) → xs.map UInt8.ofNat = ys.map UInt8.ofNat → xs = ys := by
    intro xs
    induction xs with
    | nil => intro ys _ _ h; cases ys with | nil => rfl | cons y ys => simp at h
    | cons x xs ih =>
      intro ys h1 h2 h
      cases ys with
      | nil => simp at h
      | cons y ys =>
        simp only [List.map_cons, List.cons.injEq] at h
        have e := congrArg UInt8.toNat h.1
        have a1 := h1 x (by simp)
        have a2 := h2 y (by simp)
        rw [UInt8.toNat_ofNat', UInt8.toNat_ofNat'] at e
        rw [ih ys (fun z hz => h1 z (by simp [hz])) (fun z hz => h2 z (by simp [hz])) h.2]
        congr 1
        omega
  rw [Bool.eq_iff_iff]
  simp only [str, ByteArray.toList_mk, beq_iff_eq, decide_eq_true_eq]
  exact ⟨inj xs ys hx hy, fun h => by rw [h]⟩
theorem str_size (xs : List Nat) : (str xs).size = xs.length := by simp [str, ByteArray.size]
theorem add_str (xs ys : List Nat) (w : World) (h : xs.length + ys.length ≤ 9223372036854775807) : (Op.stringOp .add (str xs) (str ys)).run Try.prog w = .ok (.string (str (xs ++ ys))) w := by
  rw [run_string_add_sum w _ _ (by rw [str_size, str_size]; exact h), str_append]

/-- in a region that draws its order: what is held may be made stronger on the way -/
theorem held_mono {P : Program} {md : Region.Mode} {ops : Array Oper} {Q : Exit → Act → World → Prop} {S S' : World → Prop} (hS : ∀ w, S' w → S w) :
    ∀ (fuel : Nat) (listed : Array Bool) (a : Act) (w : World), wpAnyH P md ops Q S' fuel listed a w → wpAnyH P md ops Q S fuel listed a w
  | 0, _, _, _, h => h
  | fuel + 1, _, _, _, h => ⟨h.1, fun i hi => wpOp_mono (fun _ w' hk => ⟨hS w' hk.1, held_mono hS fuel _ _ _ hk.2⟩) (h.2 i hi)⟩

/-- the next operation that yields in every world in which S holds, its slot written out -/
theorem held_take {P : Program} {md : Region.Mode} {ops : Array Oper} {Q : Exit → Act → World → Prop} {S : World → Prop} {i d : Nat} {oi : Oper} {v : Value} {fuel : Nat} {listed : Array Bool} {a : Act} {w : World} (hi : ops[i]? = some oi) (hd : oi.dst = some d)
    (hs : Region.noSelect ops = true) (hf : Region.free md ops listed i = true) (hr : (Region.ready md ops listed).contains i = true)
    (hQ : ∀ c a w, Q (.panic c) (a.put oi.dst v) w → Q (.panic c) a w) (hy : YieldsIf P ops S oi v a) (hS : S w)
    (h : wpAnyH P md ops Q S fuel (listed.setIfInBounds i true) (a.put (some d) v) w) : wpAnyH P md ops Q S (fuel + 1) listed a w :=
  wpAnyH_take hi hs hf hr hQ hy hS (by rw [hd]; exact h)

theorem Own.form {w : World} {base : Nat} {v : Value} {bs : List Nat} (h : Own w base v bs) (hb : bs ≠ []) : ∃ g n cap, v = .slice (some ⟨g, 0, none⟩) n cap ∧ n = bs.length ∧ base ≤ g ∧ g < w.heap.size ∧ n ≤ cap ∧ cap ≤ maxLen := by
  obtain ⟨⟨hl, h⟩, hx⟩ := h
  rcases h with ⟨_, h⟩ | ⟨g, cap, cur, rfl, hg, hh, hn, hm, _⟩
  · exact absurd (List.length_eq_zero_iff.1 h) hb
  · exact ⟨g, _, cap, rfl, rfl, hg, (Array.getElem?_eq_some_iff.1 hh).1, hn, hm⟩
theorem Own.length {w : World} {base g n cap : Nat} {bs : List Nat} (h : Own w base (.slice (some ⟨g, 0, none⟩) n cap) bs) : bs.length = n := by
  obtain ⟨⟨hl, h⟩, hx⟩ := h
  rcases h with ⟨h, _⟩ | ⟨g', cap', cur, h, _⟩
  · simp at h
  · simp only [Value.slice.injEq] at h; exact h.2.1.symm
theorem Own.cellAt {w : World} {base g n cap : Nat} {bs : List Nat} (h : Own w base (.slice (some ⟨g, 0, none⟩) n cap) bs) (j : Nat) (hj : j < n) : w.cell? ⟨g, j, none⟩ = some (.int .u8 (bs[j]?.getD 0 : Nat)) := by
  have hl := h.length
  have h1 := h.1
  rw [hl] at h1
  rw [h1.cellAt j (by omega)]
  simp [cellsOf, show j < bs.length by omega]
theorem Own.frozenAt {w : World} {base g n cap : Nat} {bs : List Nat} (h : Own w base (.slice (some ⟨g, 0, none⟩) n cap) bs) (j : Nat) : w.frozen? ⟨g, j, none⟩ = false := by
  have h1 := h.1
  rw [h.length] at h1
  exact h1.frozenAt j
theorem Own.stored {w : World} {base g n cap : Nat} {bs : List Nat} (h : Own w base (.slice (some ⟨g, 0, none⟩) n cap) bs) (hB : base ≤ g) (j y : Nat) (hy : y < 256) :
    Own (w.setCell ⟨g, j, none⟩ (.int .u8 (y : Nat))) base (.slice (some ⟨g, 0, none⟩) n cap) (bs.set j y) ∧ Below base w (w.setCell ⟨g, j, none⟩ (.int .u8 (y : Nat))) := by
  have h1 := h.1
  have hl := h.length
  rw [hl] at h1
  refine ⟨⟨?_, ?_⟩, (Below.refl _ _).setCell hB _⟩
  · rw [List.length_set, hl]
    have e : cellsOf (bs.set j y) = (cellsOf bs).set j (.int .u8 (y : Nat)) := by simp [cellsOf, List.map_set]
    rw [e]
    exact (h1.stored j _).1
  · intro x hx
    rcases List.mem_or_eq_of_mem_set hx with h2 | h2
    · exact h.2 x h2
    · omega

theorem Own.row {w : World} {base n cap : Nat} {a : Option Addr} {bs : List Nat} (h : Own w base (.slice a n cap) bs) : Row w a n bs := by
  obtain ⟨a', n', cap', e, hr, _⟩ := h.slice
  simp only [Value.slice.injEq] at e
  obtain ⟨rfl, rfl, rfl⟩ := e
  exact hr

theorem ret_int {k : IntKind} {a b : Int} (h : a = b) : Ending.returned (.int k a) = .returned (.int k b) := by rw [h]
theorem ret_bool {a b : Bool} (h : a = b) : Ending.returned (.bool a) = .returned (.bool b) := by rw [h]
end Go.Proofs.Ytlefaicdcomkjaa
