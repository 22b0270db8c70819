/- Logs that match: plain mathematics. An entry is its epoch and its Seq. -/
import Derived.Test.YtlefaicdcomkjaaEnG
namespace Go.Proofs.Ytlefaicdcomkjaa
open Go Go.RowKit
set_option linter.unusedVariables false
set_option linter.unusedSimpArgs false

abbrev En := Int × Int
abbrev Lo := List En
/-- two logs match: where they have one epoch at one number, all is the same up to there -/
def Mat (A B : Lo) : Prop := ∀ (i : Nat) (a b : En), A[i]? = some a → B[i]? = some b → a.1 = b.1 → A.take (i + 1) = B.take (i + 1)
theorem Mat.refl (A : Lo) : Mat A A := fun i a b h1 h2 h3 => rfl
theorem Mat.symm {A B : Lo} (h : Mat A B) : Mat B A := fun i a b h1 h2 h3 => (h i b a h2 h1 h3.symm).symm
theorem Mat.part {A B : Lo} (h : Mat A B) (k : Nat) : Mat (A.take k) B := by
  intro i a b h1 h2 h3
  have hi : i < (A.take k).length := (List.getElem?_eq_some_iff.1 h1).1
  rw [List.length_take] at hi
  rw [List.getElem?_take_of_lt (by omega)] at h1
  rw [List.take_take, show min (i + 1) k = i + 1 by omega]
  exact h i a b h1 h2 h3
/-- of how many of a piece's first entries a log has the epochs -/
def sameP : Lo → Lo → Nat
  | a :: A, b :: B => if a.1 = b.1 then sameP A B + 1 else 0
  | _, _ => 0
theorem sameP_le : ∀ A B : Lo, sameP A B ≤ A.length ∧ sameP A B ≤ B.length
  | [], _ => by simp [sameP]
  | _ :: _, [] => by simp [sameP]
  | a :: A, b :: B => by
    have := sameP_le A B
    unfold sameP
    split <;> simp <;> omega
theorem sameP_at : ∀ (A B : Lo) (i : Nat), i < sameP A B → ∃ a b, A[i]? = some a ∧ B[i]? = some b ∧ a.1 = b.1
  | [], _, i, h => by simp [sameP] at h
  | _ :: _, [], i, h => by simp [sameP] at h
  | a :: A, b :: B, i, h => by
    unfold sameP at h
    split at h
    · rename_i e
      cases i with
      | zero => exact ⟨a, b, rfl, rfl, e⟩
      | succ i => exact sameP_at A B i (by omega)
    · omega
/-- the epoch at a number; 0: there is none -/
def epoL (A : Lo) (i : Int) : Int := if 1 ≤ i ∧ i ≤ A.length then (A[i.toNat - 1]?.getD (0, 0)).1 else 0
/-- what becomes of a log that takes a piece -/
theorem take_is {A B : Lo} (h : Mat A B) {prev m : Nat} (hA : prev ≤ A.length) (hB : prev ≤ B.length) (hf : prev = 0 ∨ ∃ a b, A[prev - 1]? = some a ∧ B[prev - 1]? = some b ∧ a.1 = b.1) :
    A.take (prev + sameP (A.drop prev) ((B.drop prev).take m)) ++ ((B.drop prev).take m).drop (sameP (A.drop prev) ((B.drop prev).take m)) = B.take (prev + m) := by
  have hle := sameP_le (A.drop prev) ((B.drop prev).take m)
  have hat := sameP_at (A.drop prev) ((B.drop prev).take m)
  generalize sameP (A.drop prev) ((B.drop prev).take m) = n at *
  rw [List.length_drop, List.length_take, List.length_drop] at hle
  have e1 : A.take (prev + n) = B.take (prev + n) := by
    by_cases hn : n = 0
    · subst hn
      rcases hf with rfl | ⟨a, b, h1, h2, h3⟩
      · simp
      · by_cases hp : prev = 0
        · subst hp; simp
        · have := h _ a b h1 h2 h3
          rwa [show prev - 1 + 1 = prev by omega] at this
    · obtain ⟨a, b, h1, h2, h3⟩ := hat (n - 1) (by omega)
      rw [List.getElem?_drop] at h1
      rw [List.getElem?_take_of_lt (by omega), List.getElem?_drop] at h2
      have := h _ a b h1 h2 h3
      rwa [show prev + (n - 1) + 1 = prev + n by omega] at this
  rw [e1, List.drop_take, List.drop_drop]
  by_cases hm : n ≤ m
  · rw [show prev + m = (prev + n) + (m - n) by omega]
    exact List.take_add.symm
  · omega
/-- the last number at which two logs have one epoch -/
def lastTo (A B : Lo) : Nat → Nat
  | 0 => 0
  | i + 1 => if i < B.length ∧ (A[i]?.getD (0, 0)).1 = (B[i]?.getD (0, 0)).1 then i + 1 else lastTo A B i
theorem lastTo_le (A B : Lo) : ∀ k, lastTo A B k ≤ k
  | 0 => Nat.le_refl _
  | k + 1 => by have := lastTo_le A B k; unfold lastTo; split <;> omega
theorem lastTo_le2 (A B : Lo) : ∀ k, lastTo A B k ≤ B.length
  | 0 => Nat.zero_le _
  | k + 1 => by have := lastTo_le2 A B k; unfold lastTo; split <;> omega
theorem lastTo_same {A B : Lo} (h : Mat A B) : ∀ k, k ≤ A.length → A.take (lastTo A B k) = B.take (lastTo A B k)
  | 0, _ => by simp [lastTo]
  | k + 1, hk => by
    unfold lastTo
    split
    · rename_i hc
      have h1 : A[k]? = some A[k] := List.getElem?_eq_getElem (by omega)
      have h2 : B[k]? = some B[k] := List.getElem?_eq_getElem hc.1
      refine h k _ _ h1 h2 ?_
      have := hc.2
      rw [h1, h2] at this
      exact this
    · exact lastTo_same h k (by omega)

/-- what is so of three logs, of which one leads an epoch -/
structure Inv (ep : Int) (ld : Nat) (X : Nat → Lo) : Prop where
  lt : ld < 3
  rise : ∀ x, (X x).Pairwise (fun a b => a.1 ≤ b.1)
  ok : ∀ x, ∀ e ∈ X x, 1 ≤ e.1 ∧ e.1 ≤ ep ∧ 1 ≤ e.2
  mat : ∀ x y, Mat (X x) (X y)
  led : ∀ y (i : Nat) (a : En), (X y)[i]? = some a → a.1 = ep → (X y).take (i + 1) = (X ld).take (i + 1)
def upd (X : Nat → Lo) (k : Nat) (A : Lo) : Nat → Lo := fun x => if x = k then A else X x
theorem upd_same (X : Nat → Lo) (k : Nat) (A : Lo) : upd X k A k = A := by simp [upd]
theorem upd_other (X : Nat → Lo) (k x : Nat) (A : Lo) (h : x ≠ k) : upd X k A x = X x := by simp [upd, h]
theorem upd_id (X : Nat → Lo) (k : Nat) : upd X k (X k) = X := by funext x; unfold upd; split <;> simp_all
theorem Inv.none : Inv 1 0 (fun _ => []) := ⟨by omega, fun _ => List.Pairwise.nil, fun _ e h => by simp at h, fun _ _ i a b h => by simp at h, fun _ i a h => by simp at h⟩
theorem Inv.epoch {ep : Int} {ld : Nat} {X : Nat → Lo} (h : Inv ep ld X) (l : Nat) (hl : l < 3) : Inv (ep + 1) l X := by
  refine ⟨hl, h.rise, fun x e he => ?_, h.mat, fun y i a ha hep => ?_⟩
  · have := h.ok x e he; omega
  · have := h.ok y a (List.mem_of_getElem? ha); omega
theorem Inv.add {ep : Int} {ld : Nat} {X : Nat → Lo} (h : Inv ep ld X) (he : 1 ≤ ep) (s : Int) (hs : 1 ≤ s) : Inv ep ld (upd X ld (X ld ++ [(ep, s)])) := by
  have hnew : ∀ y (i : Nat) (b : En), (X y)[i]? = some b → b.1 = ep → i < (X ld).length := by
    intro y i b hb hep
    have e := h.led y i b hb hep
    have hi := (List.getElem?_eq_some_iff.1 hb).1
    have := congrArg List.length e
    rw [List.length_take, List.length_take] at this
    omega
  have hcase : ∀ (i : Nat) (a : En), (X ld ++ [(ep, s)])[i]? = some a → (i < (X ld).length ∧ (X ld)[i]? = some a ∧ (X ld ++ [(ep, s)]).take (i + 1) = (X ld).take (i + 1)) ∨ (i = (X ld).length ∧ a = (ep, s)) := by
    intro i a ha
    by_cases hi : i < (X ld).length
    · left
      rw [List.getElem?_append_left hi] at ha
      exact ⟨hi, ha, by rw [List.take_append_of_le_length (by omega)]⟩
    · right
      have := (List.getElem?_eq_some_iff.1 ha).1
      simp at this
      obtain rfl : i = (X ld).length := by omega
      simp at ha
      exact ⟨rfl, ha.symm⟩
  refine ⟨h.lt, fun x => ?_, fun x e hx => ?_, fun x y => ?_, fun y i a ha hep => ?_⟩
  · unfold upd
    split
    · rw [List.pairwise_append]
      refine ⟨h.rise ld, by simp, fun a ha b hb => ?_⟩
      simp at hb
      subst hb
      exact (h.ok ld a ha).2.1
    · exact h.rise x
  · unfold upd at hx
    split at hx
    · rcases List.mem_append.1 hx with h1 | h1
      · exact h.ok ld e h1
      · simp at h1
        subst h1
        exact ⟨he, Int.le_refl _, hs⟩
    · exact h.ok x e hx
  · have one : ∀ y, y ≠ ld → Mat (X ld ++ [(ep, s)]) (X y) := by
      intro y hy i a b ha hb hab
      rcases hcase i a ha with ⟨h1, h2, h3⟩ | ⟨rfl, rfl⟩
      · rw [h3]; exact h.mat ld y i a b h2 hb hab
      · have := hnew y _ b hb hab.symm
        omega
    by_cases ex : x = ld
    · by_cases ey : y = ld
      · subst ex; subst ey; exact Mat.refl _
      · subst ex
        rw [upd_same, upd_other _ _ _ _ ey]
        exact one y ey
    · by_cases ey : y = ld
      · subst ey
        rw [upd_same, upd_other _ _ _ _ ex]
        exact (one x ex).symm
      · rw [upd_other _ _ _ _ ex, upd_other _ _ _ _ ey]
        exact h.mat x y
  · rw [upd_same]
    by_cases ey : y = ld
    · subst ey; rw [upd_same]
    · rw [upd_other _ _ _ _ ey] at ha ⊢
      have hi := hnew y i a ha hep
      rw [List.take_append_of_le_length (by omega)]
      exact h.led y i a ha hep
theorem Inv.take {ep : Int} {ld : Nat} {X : Nat → Lo} (h : Inv ep ld X) (a b k : Nat) (ha : a ≠ ld) : Inv ep ld (upd X a ((X b).take k)) := by
  have hpart : ∀ (i : Nat) (e : En), ((X b).take k)[i]? = some e → (X b)[i]? = some e ∧ ((X b).take k).take (i + 1) = (X b).take (i + 1) := by
    intro i e he
    have hi := (List.getElem?_eq_some_iff.1 he).1
    rw [List.length_take] at hi
    rw [List.getElem?_take_of_lt (by omega)] at he
    exact ⟨he, by rw [List.take_take, show min (i + 1) k = i + 1 by omega]⟩
  refine ⟨h.lt, fun x => ?_, fun x e hx => ?_, fun x y => ?_, fun y i e he hep => ?_⟩
  · unfold upd
    split
    · exact (h.rise b).sublist (List.take_sublist _ _)
    · exact h.rise x
  · unfold upd at hx
    split at hx
    · exact h.ok b e (List.mem_of_mem_take hx)
    · exact h.ok x e hx
  · by_cases ex : x = a
    · by_cases ey : y = a
      · subst ex; subst ey; exact Mat.refl _
      · subst ex
        rw [upd_same, upd_other _ _ _ _ ey]
        exact (h.mat b y).part k
    · by_cases ey : y = a
      · subst ey
        rw [upd_same, upd_other _ _ _ _ ex]
        exact ((h.mat b x).part k).symm
      · rw [upd_other _ _ _ _ ex, upd_other _ _ _ _ ey]
        exact h.mat x y
  · rw [upd_other _ _ _ _ (fun e => ha e.symm)]
    by_cases ey : y = a
    · subst ey
      rw [upd_same] at he ⊢
      obtain ⟨h1, h2⟩ := hpart i e he
      rw [h2]
      exact h.led b i e h1 hep
    · rw [upd_other _ _ _ _ ey] at he ⊢
      exact h.led y i e he hep
end Go.Proofs.Ytlefaicdcomkjaa
