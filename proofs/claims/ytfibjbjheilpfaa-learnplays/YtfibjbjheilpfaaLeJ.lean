/- Two learners that learned some of the same values. -/
import Derived.Test.YtfibjbjheilpfaaLeI
namespace Go.Proofs.Ytfibjbjheilpfaa
open Go Go.RowKit
set_option linter.unusedVariables false
set_option linter.unusedSimpArgs false

theorem wf_i64 {m : Int} (h1 : -9223372036854775808 ≤ m) (h2 : m ≤ 9223372036854775807) : (Lit.int .i64 m).wf = true := by
  simp only [Lit.wf, Bool.and_eq_true, decide_eq_true_eq]
  exact ⟨h1, h2⟩
/-- a value that came in, cut -/
def cutv (v : ByteArray) : ByteArray := if 64 < v.size then v.extract 0 64 else v
theorem cutv_le (v : ByteArray) : (cutv v).size ≤ 64 := by
  unfold cutv
  split
  · rw [ByteArray.size_extract]; omega
  · omega
/-- what was chosen is of these values -/
def Of (z : List ByteArray) (F : Ch) : Prop := ∀ i u, F i = some u → ∃ v, z[i]? = some v ∧ u = cutv v
theorem Of.nil (z : List ByteArray) : Of z nilC := fun i u h => by cases h
theorem Of.set {z : List ByteArray} {F : Ch} (h : Of z F) {k : Nat} {v : ByteArray} (hv : z[k]? = some v) (h0 : k < 400) : Of z (learnC F (k : Nat) (cutv v)) := by
  unfold learnC
  split
  · intro i u hu
    unfold setC at hu
    split at hu
    · rename_i e
      simp only [Int.toNat_natCast] at e
      subst e
      simp only [Option.some.injEq] at hu
      exact ⟨v, hv, hu.symm⟩
    · exact h i u hu
  · exact h
theorem Of.meet {z : List ByteArray} {F G : Ch} (hF : Of z F) (hG : Of z G) {n : Nat} (hn : n = min (prefC F) (prefC G)) : fromC F 0 (n : Nat) = fromC G 0 (n : Nat) ∧ (fromC F 0 (n : Nat)).length = n := by
  have cF : cntC (prefC F) 0 (n : Nat) = n := by unfold cntC; rw [if_neg (by omega)]; omega
  have cG : cntC (prefC G) 0 (n : Nat) = n := by unfold cntC; rw [if_neg (by omega)]; omega
  refine ⟨?_, by rw [fromC, fromP_len, cF]⟩
  unfold fromC fromP
  rw [cF, cG]
  refine List.map_congr_left fun i hi => ?_
  have hi := List.mem_range.1 hi
  have a := prefC_has F i (by omega)
  have b := prefC_has G i (by omega)
  unfold hasC at a b
  obtain ⟨u, hu⟩ := Option.isSome_iff_exists.1 a
  obtain ⟨v, hv⟩ := Option.isSome_iff_exists.1 b
  obtain ⟨x, hx, rfl⟩ := hF i u hu
  obtain ⟨y, hy, rfl⟩ := hG i v hv
  rw [hx] at hy
  simp only [Option.some.injEq] at hy
  subst hy
  unfold valC
  simp only [Int.toNat_zero, Nat.zero_add]
  rw [hu, hv]
theorem Le.other {w w' : World} {p q : Nat} {F : Ch} (h : Le w q F) (hg : w.grownBy w' (some p)) (hne : q ≠ p) : Le w' q F := by
  obtain ⟨cur, h1, h2⟩ := h.box
  exact ⟨cur, (hg.block q h.lt (fun e => hne (by simpa using e))).trans h1, h2⟩
theorem meet_at {z : List ByteArray} {F G : Ch} {w : World} {p q : Nat} (hF : Of z F) (hG : Of z G) (h1 : Le w p F) (h2 : Le w q G) :
    ∃ nF nG : Nat, (Calls Try.prog 10 #[.pointer (some ⟨p, 0, none⟩)] w fun e w' => e = .returned (.int .i64 (nF : Nat)) ∧ ∃ n, w' = w.drewN n) ∧
      (∀ d, Calls Try.prog 10 #[.pointer (some ⟨q, 0, none⟩)] (w.drewN d) fun e w' => e = .returned (.int .i64 (nG : Nat)) ∧ ∃ n, w' = (w.drewN d).drewN n) ∧
      ∀ m : Int, m = min (nF : Int) (nG : Int) → (fromC F 0 m = fromC G 0 m ∧ ((fromC F 0 m).length : Int) = m) ∧ 0 ≤ m ∧ m ≤ 400 := by
  refine ⟨prefC F, prefC G, prefix_any p F w h1, fun d => prefix_any q G _ (h2.drews d), fun m hm => ?_⟩
  obtain ⟨h1, h2⟩ := Of.meet hF hG (n := min (prefC F) (prefC G)) rfl
  have a := prefC_le F
  have b := prefC_le G
  generalize prefC F = x at *
  generalize prefC G = y at *
  obtain rfl : m = ((min x y : Nat) : Int) := by omega
  exact ⟨⟨h1, by rw [h2]⟩, by omega, by omega⟩
end Go.Proofs.Ytfibjbjheilpfaa
