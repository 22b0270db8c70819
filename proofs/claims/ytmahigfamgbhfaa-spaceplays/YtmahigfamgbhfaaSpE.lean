/- The chapter's example of a space: a at 1, b at 2: b is dirty at 1. -/
import Derived.Test.YtmahigfamgbhfaaSpD
namespace Go.Proofs.Ytmahigfamgbhfaa
open Go.RowKit Go.Maps Go.Sort Go.Shelf
set_option linter.unusedVariables false

theorem only_one {α : Type} {l : List α} {x : α} (hn : l.Nodup) (h : ∀ y, y ∈ l ↔ y = x) : l = [x] := by
  match l, hn, h with
  | [], _, h => exact absurd ((h x).2 rfl) (by simp)
  | [p], _, h => rw [(h p).1 (by simp)]
  | p :: q :: r, hn, h =>
    have h1 := (h p).1 (by simp)
    have h2 := (h q).1 (by simp)
    simp [h1, h2] at hn
def F0 : ByteArray → List Ver := fun _ => []
def F1 : ByteArray → List Ver := upd F0 ⟨#[97]⟩ [⟨1, 1, ⟨#[120]⟩, false⟩]
def F2 : ByteArray → List Ver := upd F1 ⟨#[98]⟩ [⟨2, 1, ⟨#[121]⟩, false⟩]
theorem f1_b : F1 ⟨#[98]⟩ = [] := rfl
theorem f2_a : F2 ⟨#[97]⟩ = [⟨1, 1, ⟨#[120]⟩, false⟩] := rfl
theorem key_a : right ⟨#[97]⟩ = true := by decide +kernel
theorem key_b : right ⟨#[98]⟩ = true := by decide +kernel
theorem may_x : may ⟨#[120]⟩ false = true := by decide +kernel
theorem may_y : may ⟨#[121]⟩ false = true := by decide +kernel
theorem dirty_b : ∀ b : List UInt8, dirtyAt F2 1 b = true ↔ b = [98] := by
  intro b
  by_cases h1 : b = [98]
  · subst h1
    exact ⟨fun _ => rfl, fun _ => rfl⟩
  · have e2 : F2 ⟨b.toArray⟩ = F1 ⟨b.toArray⟩ := upd_other _ _ _ _ (by simpa using h1)
    by_cases h0 : b = [97]
    · subst h0
      constructor
      · intro h
        exact absurd h (by decide +kernel)
      · intro h
        exact absurd h h1
    · have e1 : F1 ⟨b.toArray⟩ = [] := upd_other _ _ _ _ (by simpa using h0)
      simp [dirtyAt, e2, e1, h1]
theorem Sp.keys' {w : World} {g bm n : Nat} {D : DataW Value} {F : ByteArray → List Ver} (h : Sp w g bm n D F) (b : List UInt8) : has D (.string b) = true ↔ F ⟨b.toArray⟩ ≠ [] := by
  have := h.keys ⟨b.toArray⟩
  simpa [klit] using this

set_option maxRecDepth 100000 in
set_option maxHeartbeats 2000000 in
theorem awake10_any (w : World) : Calls Try.prog 36 #[] w fun e w' => e = .returned (.bool true) ∧ Below w.heap.size w w' := by
  go_enter Try.func36, Try.ntmps36
  go_wp2_with fail
  refine (new_any w).mono ?_
  rintro e w1 ⟨g, bm, rfl, hS1, hb1, hg, hbm⟩
  have h1 := sput_ok g bm 0 _ F0 ⟨#[97]⟩ 1 ⟨#[120]⟩ false w1 hS1 (by decide) (by decide) (by decide) (by decide) key_a (by decide) may_x (by decide) (by decide) (by decide)
  have HB1 : Hid (Below w.heap.size w w1) := hb1
  clear hS1 hb1
  go_wp2_with fail
  refine h1.mono ?_
  clear h1
  rintro e w2 ⟨rfl, ⟨D2, hS2⟩, -, hB2⟩
  have HB2 : Hid (Below w.heap.size w w2) := HB1.out.trans (hB2 _ HB1.out.size hbm)
  have hS2' : Sp w2 g bm 1 D2 F1 := hS2
  have h2 := sput_ok g bm 1 D2 F1 ⟨#[98]⟩ 2 ⟨#[121]⟩ false w2 hS2' (by decide) (by decide) (by decide) (by decide) key_b (by rw [f1_b]; decide) may_y (by rw [f1_b]; decide) (by rw [f1_b]; decide) (by decide)
  clear hS2 hB2 hS2'
  go_wp2_with fail
  refine h2.mono ?_
  clear h2
  rintro e w3 ⟨rfl, ⟨D3, hS3⟩, -, hB3⟩
  have HB3 : Hid (Below w.heap.size w w3) := HB2.out.trans (hB3 _ HB2.out.size hbm)
  have HS3 : Hid (Sp w3 g bm 2 D3 F2) := hS3
  clear hS3 hB3
  have h3 := sdirty_any g bm 2 D3 F2 1 w3 HS3.out (by decide)
  go_wp2_with fail
  refine h3.mono ?_
  clear h3
  rintro e w4 ⟨v4, ks, rfl, ho4, hnd, hks, hb4⟩
  have hks2 : ks = [[98]] := only_one hnd (fun b => by
    rw [hks b, HS3.out.keys' b]
    constructor
    · rintro ⟨_, h⟩; exact (dirty_b b).1 h
    · intro h; exact ⟨by rw [h]; simp [F2, upd], (dirty_b b).2 h⟩)
  subst hks2
  have ho5 : OwnV w4 w3.heap.size 9 v4 [.string ⟨#[98]⟩] := by
    have e : ([[98]] : List (List UInt8)).mergeSort (fun x y => decide (x ≤ y)) = [[98]] := by simp
    rw [e] at ho4
    exact ho4
  obtain ⟨g4, cap4, rfl, -, -, -, -, hcell⟩ := ho5.form (by simp)
  have c4 : w4.cell? ⟨g4, 0, none⟩ = some (.string ⟨#[98]⟩) := hcell 0 _ rfl
  have HB4 : Hid (Below w.heap.size w w4) := HB3.out.trans (hb4.mono HB3.out.size)
  have h4 := snum_any g bm 2 D3 F2 ⟨#[97]⟩ w4 (HS3.out.later hb4) (by decide)
  rw [f2_a] at h4
  clear hnd hks ho4 ho5 hcell hb4
  go_wp2_with fail
  refine h4.mono ?_
  clear h4 c4
  rintro e w5 ⟨rfl, hb5⟩
  have HB5 : Hid (Below w.heap.size w w5) := HB4.out.trans (hb5.mono HB4.out.size)
  clear hb5
  go_wp2
  go_ret
  exact ⟨rfl, HB5.out⟩
end Go.Proofs.Ytmahigfamgbhfaa
