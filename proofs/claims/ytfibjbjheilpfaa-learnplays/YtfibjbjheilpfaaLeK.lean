/- One more value: what was chosen stays so. -/
import Derived.Test.YtfibjbjheilpfaaLeJ
namespace Go.Proofs.Ytfibjbjheilpfaa
open Go Go.RowKit
set_option linter.unusedVariables false
set_option linter.unusedSimpArgs false

def valS (F : Ch) (s : Int) : ByteArray := if 0 ≤ s ∧ s < 400 then valC F s.toNat else ⟨#[]⟩
def hasS (F : Ch) (s : Int) : Bool := if 0 ≤ s ∧ s < 400 then hasC F s.toNat else false
theorem val_any (g : Nat) (F : Ch) (s : Int) (w : World) (h : Le w g F) :
    Calls Try.prog 14 #[.pointer (some ⟨g, 0, none⟩), .int .i64 s] w fun e w' => e = .returned (.tuple #[.string (valS F s), .bool (hasS F s)]) ∧ ∃ n, w' = w.drewN n := by
  by_cases hs : 0 ≤ s ∧ s < 400
  · obtain ⟨i, rfl⟩ : ∃ i : Nat, s = (i : Nat) := ⟨s.toNat, by omega⟩
    have e1 : valS F (i : Nat) = valC F i := by unfold valS; rw [if_pos hs]; rfl
    have e2 : hasS F (i : Nat) = hasC F i := by unfold hasS; rw [if_pos hs]; rfl
    rw [e1, e2]
    exact val_in g F i w h (by omega)
  · have e1 : valS F s = ⟨#[]⟩ := by unfold valS; rw [if_neg hs]
    have e2 : hasS F s = false := by unfold hasS; rw [if_neg hs]
    rw [e1, e2]
    refine (val_out g s w (by omega)).mono ?_
    rintro e w' ⟨rfl, rfl⟩
    exact ⟨rfl, 0, rfl⟩
theorem learn_cases (F : Ch) (s : Int) (v : ByteArray) :
    (learnE F s v = 0 ∧ hasS F s = false ∧ hasS (learnC F s v) s = true ∧ valS (learnC F s v) s = v) ∨
    ((learnE F s v == 0) = false ∧ hasS (learnC F s v) s = hasS F s ∧ valS (learnC F s v) s = valS F s) := by
  by_cases h : learnE F s v = 0
  · left
    obtain ⟨i, rfl, h1, h2, h3⟩ := learnE_zero h
    have hi : (0 : Int) ≤ (i : Nat) ∧ ((i : Nat) : Int) < 400 := by omega
    unfold learnC hasS valS
    rw [if_pos h, if_pos hi, if_pos hi, if_pos hi, Int.toNat_natCast, hasC_set, valC_set, if_pos rfl, if_pos rfl]
    exact ⟨h, h3, rfl, rfl⟩
  · right
    unfold learnC
    rw [if_neg h]
    exact ⟨by simpa using h, rfl, rfl⟩
theorem has_mono (F : Ch) (s : Int) (v : ByteArray) (i : Nat) (h : hasC F i = true) : hasC (learnC F s v) i = true ∧ valC (learnC F s v) i = valC F i := by
  unfold learnC
  split
  · rename_i h0
    obtain ⟨j, rfl, h1, h2, h3⟩ := learnE_zero h0
    rw [Int.toNat_natCast, hasC_set, valC_set]
    have : i ≠ j := fun e => by rw [e, h3] at h; cases h
    rw [if_neg this, if_neg this]
    exact ⟨h, rfl⟩
  · exact ⟨h, rfl⟩
theorem pref_mono (F : Ch) (s : Int) (v : ByteArray) : prefC F ≤ prefC (learnC F s v) := by
  by_cases h : prefC (learnC F s v) < 400
  · have a := prefC_not _ h
    by_cases hlt : prefC (learnC F s v) < prefC F
    · rw [(has_mono F s v _ (prefC_has F _ hlt)).1] at a
      cases a
    · omega
  · have := prefC_le F
    omega
theorem from_stays (F : Ch) (s : Int) (v : ByteArray) : fromC (learnC F s v) 0 (prefC F : Nat) = fromC F 0 400 := by
  have h1 := pref_mono F s v
  have h2 := prefC_le F
  have c1 : cntC (prefC (learnC F s v)) 0 (prefC F : Nat) = prefC F := by unfold cntC; rw [if_neg (by omega)]; omega
  have c2 : cntC (prefC F) 0 400 = prefC F := by unfold cntC; rw [if_neg (by omega)]; omega
  unfold fromC fromP
  rw [c1, c2]
  refine List.map_congr_left fun i hi => ?_
  have hi := List.mem_range.1 hi
  simp only [Int.toNat_zero, Nat.zero_add]
  exact (has_mono F s v i (prefC_has F i hi)).2
theorem Le.tag {w : World} {g : Nat} {F : Ch} (h : Le w g F) : tagOf w g = some 49 := by
  obtain ⟨cur, h1, h2⟩ := h.box
  exact tagOf_heap h1
theorem Le.fr {w w' : World} {g : Nat} {F : Ch} (h : Le w g F) (hg : w.grownBy w' (some g)) : Fr 0 [49] w w' := Fr.grown hg fun k hk => ⟨Nat.zero_le _, 49, by simp, by simp only [Option.some.injEq] at hk; rw [← hk]; exact h.tag⟩
/-- what the law asks of a learner -/
theorem stays_at {F : Ch} {w : World} {p : Nat} (h1 : Le w p F) (s : Int) (v : ByteArray) :
    ∃ n m : Nat, ∃ l : List ByteArray, n ≤ m ∧ m ≤ 400 ∧
      (∀ w, Le w p F → Calls Try.prog 10 #[.pointer (some ⟨p, 0, none⟩)] w fun e w' => e = .returned (.int .i64 (n : Nat)) ∧ ∃ d, w' = w.drewN d) ∧
      (∀ w, Le w p (learnC F s v) → Calls Try.prog 10 #[.pointer (some ⟨p, 0, none⟩)] w fun e w' => e = .returned (.int .i64 (m : Nat)) ∧ ∃ d, w' = w.drewN d) ∧
      (∀ w, Le w p F → Calls Try.prog 17 #[.pointer (some ⟨p, 0, none⟩), .int .i64 0, .int .i64 400] w fun e w' => ∃ v, e = .returned v ∧ OwnV w' w.heap.size 9 v (encs l) ∧ Below w.heap.size w w') ∧
      (∀ w, Le w p (learnC F s v) → Calls Try.prog 17 #[.pointer (some ⟨p, 0, none⟩), .int .i64 0, .int .i64 (n : Nat)] w fun e w' => ∃ v, e = .returned v ∧ OwnV w' w.heap.size 9 v (encs l) ∧ Below w.heap.size w w') := by
  refine ⟨prefC F, prefC (learnC F s v), fromC F 0 400, pref_mono F s v, prefC_le _, fun w h => prefix_any p F w h, fun w h => prefix_any p _ w h, fun w h => from_any p F 0 400 w h (by decide) (by decide), fun w h => ?_⟩
  rw [← from_stays F s v]
  have a := prefC_le F
  exact from_any p _ 0 _ w h (by decide) (wf_i64 (by omega) (by omega))
end Go.Proofs.Ytfibjbjheilpfaa
