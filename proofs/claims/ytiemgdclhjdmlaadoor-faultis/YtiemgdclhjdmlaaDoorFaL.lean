/- Texts that came in; the path with one more place. -/
import Derived.Test.YtiemgdclhjdmlaaDoorFaK
namespace Go.Proofs.YtiemgdclhjdmlaaDoor
open Go.RowKit

theorem Strs.none {w : World} {a : Option Addr} : Strs w a 0 [] := ⟨rfl, by simp, by simp [maxLen], .inl rfl⟩
theorem Strs.of {w : World} {x : Addr} {len cap : Nat} {ss : List ByteArray} (hl : len ≤ cap) (hm : cap ≤ maxLen) (hz : ss.length = cap)
    (hcell : ∀ i, i < ss.length → w.cell? (x.add i) = some (.string (ss.getD i ByteArray.empty))) (hw : ∀ s ∈ ss, s.size ≤ maxLen) : Strs w (some x) len (ss.take len) := by
  refine ⟨by simp; omega, fun y hy => hw y (List.mem_of_mem_take hy), by omega, ?_⟩
  by_cases h0 : len = 0
  · exact .inl h0
  · right
    obtain ⟨b, off, spot⟩ := x
    have hc := hcell 0 (by omega)
    have hspot : spot = .none := by simpa [Addr.add] using World.cell?_spot hc
    subst hspot
    refine ⟨b, off, rfl, fun j y hj => ?_⟩
    have hj2 : j < (ss.take len).length := (List.getElem?_eq_some_iff.1 hj).1
    simp at hj2
    have h1 := hcell j (by omega)
    rw [Addr.add_lit] at h1
    rw [h1]
    rw [List.getElem?_take_of_lt (by omega)] at hj
    simp [hj]
theorem path_cons (p : ByteArray) (ps : List ByteArray) (h : ps ≠ []) : path (p :: ps) = p ++ ⟨#[62]⟩ ++ path ps := by
  cases ps with
  | nil => exact absurd rfl h
  | cons q ps =>
    simp only [path, List.map_cons, Lib.join_cons, Lib.joinTail]
    have : p = ⟨p.data.toList.toArray⟩ := by simp
    rw [this, ByteArray.mk_append_mk, ByteArray.mk_append_mk]
    simp
end Go.Proofs.YtiemgdclhjdmlaaDoor
