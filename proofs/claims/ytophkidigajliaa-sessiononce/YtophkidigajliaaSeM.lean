/- Slots by clients: plain mathematics. -/
import Derived.Test.YtophkidigajliaaEnG
namespace Go.Proofs.Ytophkidigajliaa
open Go Go.RowKit
set_option linter.unusedVariables false
set_option linter.unusedSimpArgs false

/-- what a client asked last -/
structure Slot where
  seq : Int
  opn : Bool
  at_ : Int
  code : Int
  num : Int
abbrev Slot.zero : Slot := ⟨0, false, 0, 0, 0⟩
/-- all slots that ever were, of their clients -/
abbrev Log := List (Int × Slot)
abbrev slotv (s : Slot) : Value := .agg #[.int .u64 s.seq, .bool s.opn, .int .i64 s.at_, .int .i64 s.code, .int .u64 s.num]
def ofL (L : Log) (c : Int) : Option Slot := L.foldl (fun o s => if s.1 = c then some s.2 else o) none
theorem ofL_nil (c : Int) : ofL [] c = none := rfl
theorem ofL_snoc (L : Log) (x : Int × Slot) (c : Int) : ofL (L ++ [x]) c = if x.1 = c then some x.2 else ofL L c := by simp [ofL]
def slotL (L : Log) (c : Int) : Slot := (ofL L c).getD Slot.zero
def hasL (L : Log) (c : Int) : Bool := (ofL L c).isSome
theorem fold_any (c : Int) : ∀ (L : Log) (o : Option Slot), (L.foldl (fun o s => if s.1 = c then some s.2 else o) o).isSome = (o.isSome || L.any (fun x => decide (x.1 = c))) := by
  intro L
  induction L with
  | nil => intro o; simp
  | cons x L ih =>
    intro o
    rw [List.foldl_cons, ih, List.any_cons]
    by_cases h : x.1 = c
    · simp [h]
    · simp [h]
theorem hasL_any (L : Log) (c : Int) : hasL L c = L.any (fun x => decide (x.1 = c)) := by
  unfold hasL ofL
  rw [fold_any]
  simp
theorem slotL_snoc (L : Log) (x : Int × Slot) (c : Int) : slotL (L ++ [x]) c = if x.1 = c then x.2 else slotL L c := by
  unfold slotL
  rw [ofL_snoc]
  split <;> rfl
theorem hasL_snoc (L : Log) (x : Int × Slot) (c : Int) : hasL (L ++ [x]) c = if x.1 = c then true else hasL L c := by
  unfold hasL
  rw [ofL_snoc]
  split <;> rfl
theorem slotL_none {L : Log} {c : Int} (h : hasL L c = false) : slotL L c = Slot.zero := by
  unfold hasL at h
  unfold slotL
  cases ho : ofL L c with
  | none => rfl
  | some s => rw [ho] at h; cases h
/-- how many clients have one -/
def cntTo (L : Log) : Nat → Nat
  | 0 => 0
  | k + 1 => cntTo L k + if (L.take k).any (fun x => decide (x.1 = (L[k]?.map (·.1)).getD 0)) then 0 else 1
def cnt (L : Log) : Nat := cntTo L L.length
theorem cntTo_snoc (L : Log) (x : Int × Slot) : ∀ k, k ≤ L.length → cntTo (L ++ [x]) k = cntTo L k := by
  intro k
  induction k with
  | zero => intro _; rfl
  | succ k ih =>
    intro hk
    rw [cntTo, cntTo, ih (by omega), List.take_append_of_le_length (by omega), List.getElem?_append_left (by omega)]
theorem cnt_snoc (L : Log) (x : Int × Slot) : cnt (L ++ [x]) = cnt L + if hasL L x.1 then 0 else 1 := by
  unfold cnt
  rw [List.length_append, List.length_singleton, cntTo, cntTo_snoc L x _ (Nat.le_refl _), List.take_left', hasL_any]
  · rw [show (L ++ [x])[L.length]? = some x by simp]
    rfl
  · rfl
theorem cntTo_le (L : Log) : ∀ k, cntTo L k ≤ k := by
  intro k
  induction k with
  | zero => exact Nat.le_refl _
  | succ k ih => rw [cntTo]; split <;> omega

def rightId (x : Id) : Bool := decide (0 ≤ x.1) && decide (x.1 < 6) && decide (0 < x.2)
/-- what an ID is to a table -/
def howL (L : Log) (x : Id) : Int := if hasL L x.1 = false ∨ (slotL L x.1).seq < x.2 then 0 else if (slotL L x.1).seq = x.2 then 1 else 2
theorem how_cases (L : Log) (x : Id) : howL L x = 0 ∨ howL L x = 1 ∨ howL L x = 2 := by
  unfold howL
  split
  · exact .inl rfl
  · split
    · exact .inr (.inl rfl)
    · exact .inr (.inr rfl)
def refuse (L : Log) (x : Id) (a : Int) : Int := if rightId x = false ∨ a < 1 then 1 else if howL L x = 2 then 13 else 0
def openE (L : Log) (x : Id) (a : Int) : Int := if rightId x = false ∨ a < 1 then 1 else if howL L x = 2 then 13 else if howL L x = 1 then 7 else if (slotL L x.1).opn = true then 10 else 0
def doneE (L : Log) (x : Id) (a : Int) : Int := if rightId x = false ∨ a < 1 then 1 else if howL L x = 2 then 13 else if howL L x = 1 then (if (slotL L x.1).opn = true then 0 else 7) else if (slotL L x.1).opn = true then 10 else 0
abbrev openS (x : Id) (a : Int) : Int × Slot := (x.1, ⟨x.2, true, a, 0, 0⟩)
abbrev doneS (x : Id) (a cd n : Int) : Int × Slot := (x.1, ⟨x.2, false, a, cd, n⟩)
def openLg (L : Log) (x : Id) (a : Int) : Log := if openE L x a = 0 then L ++ [openS x a] else L
def doneLg (L : Log) (x : Id) (a cd n : Int) : Log := if doneE L x a = 0 then L ++ [doneS x a cd n] else L
theorem openLg_len (L : Log) (x : Id) (a : Int) : (openLg L x a).length ≤ L.length + 1 := by unfold openLg; split <;> simp
theorem doneLg_len (L : Log) (x : Id) (a cd n : Int) : (doneLg L x a cd n).length ≤ L.length + 1 := by unfold doneLg; split <;> simp
end Go.Proofs.Ytophkidigajliaa
