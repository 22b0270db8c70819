/- One call of the law's, of both disks. -/
import Derived.Test.YtpejijiolcfglaaDkK
namespace Go.Proofs.Ytpejijiolcfglaa
open Go.RowKit
set_option linter.unusedVariables false

/-- both disks, in memory -/
structure Two (w : World) (S : Nat → Prop) (g h : Nat) (d : DS) : Prop where
  dk : Dk w S g d
  rk : Rk w h d
  apart : ¬ S h
  news : ∀ k, w.heap.size ≤ k → S k

theorem Dk.own {w : World} {S : Nat → Prop} {g : Nat} {d : DS} (h : Dk w S g d) : S g := by
  obtain ⟨_, _, _, _, _, _, _, _, _, hg, _⟩ := h
  exact hg

theorem Two.later {w w' : World} {S : Nat → Prop} {g h : Nat} {d : DS} (t : Two w S g h d) (hb : Below w.heap.size w w') : Two w' S g h d :=
  ⟨t.dk.later hb, t.rk.later hb, t.apart, fun k hk => t.news k (Nat.le_trans hb.size hk)⟩

/-- a text's bytes, as numbers -/
theorem str_is (s : ByteArray) : ∃ ts : List Nat, str ts = s ∧ (∀ x ∈ ts, x < 256) ∧ ts.length = s.size := by
  refine ⟨s.data.toList.map UInt8.toNat, ?_, ?_, ?_⟩
  · unfold str
    have : (s.data.toList.map UInt8.toNat).map UInt8.ofNat = s.data.toList := by
      rw [List.map_map]
      conv => rhs; rw [← List.map_id s.data.toList]
      apply List.map_congr_left
      intro x _
      simp
    rw [this]
  · intro x hx
    simp only [List.mem_map] at hx
    obtain ⟨y, _, rfl⟩ := hx
    exact y.toNat_lt
  · rw [List.length_map, Array.length_toList]
    rfl

/-- '[]byte(s)': where its bytes lie -/
theorem row_bytes (W : World) (bs : List Nat) (hx : ∀ x ∈ bs, x < 256) (hm : bs.length ≤ maxLen) (cap : Nat) (mk : Nat × Nat) : Row (W.alloc (.cells (bytesRow (str bs) cap) 5 mk)) (some ⟨W.heap.size, 0, none⟩) bs.length bs := by
  refine ⟨rfl, hx, hm, ?_⟩
  right
  refine ⟨_, _, rfl, fun i hi => ?_⟩
  rw [Nat.zero_add]
  have hh : (W.alloc (.cells (bytesRow (str bs) cap) 5 mk)).heap[W.heap.size]? = some (.cells (bytesRow (str bs) cap) 5 mk) := by
    show (W.heap.push _)[W.heap.size]? = _
    rw [Array.getElem?_push_size]
  refine cell_of_heap hh ?_
  rw [bytesRow_at (str bs) cap i (by show i < (bs.map UInt8.ofNat).toArray.size; rw [List.size_toArray, List.length_map]; exact hi)]
  have : bs[i] < 256 := hx _ (List.getElem_mem hi)
  simp [str, List.getElem?_eq_getElem hi]
  omega

/-- the end of a call: what both disks are -/
theorem Two.fin {w W w1 w2 : World} {S S' : Nat → Prop} {g h : Nat} {D : DS} (hB : Below w.heap.size w W) (hap : ¬ S h) (hS : ∀ k, w.heap.size ≤ k → S k) (hS' : ∀ k, S' k → S k)
    (hD : Dk w1 S' g D) (hf1 : Fr S' W w1) (hR : Rk w2 h D) (hf2 : Fr (· = h) w1 w2) : Two w2 S g h D ∧ Fr (fun k => S k ∨ k = h) w w2 := by
  have hf0 : Fr (fun k => S k ∨ k = h) w W := Fr.of_below hB _ (fun k h1 h2 => by omega)
  refine ⟨⟨(hD.to (fun k _ hk => hS' k hk)).fr hf2 (fun k _ hk e => hap (e ▸ hk)), hR, hap, fun k hk => hS k (Nat.le_trans hf0.size (Nat.le_trans hf1.size (Nat.le_trans hf2.size hk)))⟩, ?_⟩
  exact hf0.trans ((hf1.mono fun k _ hk => .inl (hS' k hk)).trans (hf2.mono fun k _ hk => .inr hk))

theorem two_told {w2 : World} {S : Nat → Prop} {g h : Nat} {D : DS} {F : Prop} (t : Two w2 S g h D ∧ F) : (∃ d', Two w2 S g h d') ∧ F := ⟨⟨D, t.1⟩, t.2⟩

end Go.Proofs.Ytpejijiolcfglaa
