/- Both tables at first; what is taken and freed can be taken again: plain mathematics. -/
import Derived.Test.YtbhohedkgeokgaaLkN
namespace Go.Proofs.Ytbhohedkgeokgaa
open Go Go.RowKit
set_option linter.unusedVariables false
set_option linter.unusedSimpArgs false

theorem Both.new (W : World) (B : Nat) (hB : B ≤ W.heap.size) : Both ((W.alloc (.cells #[.slice none 0 0, .slice none 0 0, .int .i64 0] 54)).alloc (.cells #[.slice none 0 0, .int .i64 0] 28)) B W.heap.size (W.heap.size + 1) 0 [] [] 0 := by
  have b1 : Below (W.alloc (.cells #[.slice none 0 0, .slice none 0 0, .int .i64 0] 54)).heap.size (W.alloc (.cells #[.slice none 0 0, .slice none 0 0, .int .i64 0] 54)) ((W.alloc (.cells #[.slice none 0 0, .slice none 0 0, .int .i64 0] 54)).alloc (.cells #[.slice none 0 0, .int .i64 0] 28)) := (Below.refl _ _).alloc (Nat.le_refl _) _
  have hn := heap_alloc_new (W.alloc (.cells #[.slice none 0 0, .slice none 0 0, .int .i64 0] 54)) (.cells #[.slice none 0 0, .int .i64 0] 28)
  rw [World.size_alloc] at hn
  have hT : Tb (W.alloc (.cells #[.slice none 0 0, .slice none 0 0, .int .i64 0] 54)) B W.heap.size [] [] 0 := ⟨hB, _, _, heap_alloc_new W _, SpO.nil _ _, SpO.nil _ _, by simp [Value.ownBlock]⟩
  exact ⟨hT.later b1, ⟨by omega, _, hn, World.ownsRow_nil _ _ _ _⟩, Inv.nil, Nat.le_refl _, Nat.le_refl _, Nat.le_refl _⟩

theorem takeE_zero {H : List Spn} {last : Int} {id : Id} {a : Int} {rd wl : List ByteArray} : takeE H last id a rd wl = 0 ↔ last < a ∧ allR rd = true ∧ allR wl = true ∧ holdsS H id = false ∧ (rd.any (busyS H · false) || wl.any (busyS H · true)) = false := by
  unfold takeE
  by_cases h1 : a ≤ last
  · rw [if_pos h1]
    exact ⟨fun e => (by cases e), fun e => by omega⟩
  rw [if_neg h1]
  by_cases h2 : (allR rd && allR wl) = false
  · rw [if_pos h2]
    refine ⟨fun e => (by cases e), fun e => ?_⟩
    rw [e.2.1, e.2.2.1] at h2
    cases h2
  rw [if_neg h2]
  by_cases h3 : holdsS H id = true
  · rw [if_pos h3]
    refine ⟨fun e => (by cases e), fun e => ?_⟩
    rw [e.2.2.2.1] at h3
    cases h3
  rw [if_neg h3]
  by_cases h4 : (rd.any (busyS H · false) || wl.any (busyS H · true)) = true
  · rw [if_pos h4]
    refine ⟨fun e => (by cases e), fun e => ?_⟩
    rw [e.2.2.2.2] at h4
    cases h4
  rw [if_neg h4]
  simp only [Bool.not_eq_false, Bool.and_eq_true] at h2
  exact ⟨fun _ => ⟨by omega, h2.1, h2.2, by simpa using h3, by simpa using h4⟩, fun _ => rfl⟩
theorem back_free {H : List Spn} {last : Int} {s : Spn} : freeE (H ++ [s]) (last + 1) s.id (last + 2) = 0 := by
  unfold freeE
  rw [if_neg (by omega), if_pos]
  simp [holdsS]
theorem back_erase {H : List Spn} {s : Spn} (h : holdsS H s.id = false) : (H ++ [s]).eraseP (fun t => decide (t.id = s.id)) = H := by
  rw [List.eraseP_append_right]
  · simp
  · intro t ht hc
    rw [holdsS, List.any_eq_false] at h
    exact h t ht hc
theorem back_take {H : List Spn} {last : Int} {oid id : Id} {rd wl : List ByteArray} (h : takeE H last oid (last + 1) rd wl = 0) (hid : holdsS H id = false) : takeE H (last + 2) id (last + 3) rd wl = 0 := by
  obtain ⟨h1, h2, h3, h4, h5⟩ := takeE_zero.1 h
  exact takeE_zero.2 ⟨by omega, h2, h3, hid, h5⟩
end Go.Proofs.Ytbhohedkgeokgaa
