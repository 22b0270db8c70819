/- How many reads and writes may be: a contract. -/
import Derived.Test.YtlefaicdcomkjaaEnD
namespace Go.Proofs.Ytlefaicdcomkjaa
open Go Go.RowKit
set_option linter.unusedVariables false
set_option linter.unusedSimpArgs false

def rcounts (plain : Bool) (n m : Nat) : Bool := if plain = true then decide (n = 0 ∧ m = 1) else decide (0 < n + m ∧ n ≤ 8 ∧ m ≤ 8)
set_option maxRecDepth 100000 in
set_option maxHeartbeats 2000000 in
theorem rightCounts_any (id : Id) (plain : Bool) (a : Option Addr) (n c : Nat) (a' : Option Addr) (m c' : Nat) (w : World) (hn : n ≤ 1000) (hm : m ≤ 1000) :
    Calls Try.prog 62 #[.agg #[.int .i64 id.1, .int .u64 id.2, .bool plain, .slice a n c, .slice a' m c']] w fun e w' => e = .returned (.bool (rcounts plain n m)) ∧ Below w.heap.size w w' := by
  have hb : Below w.heap.size w (w.alloc (.cells #[.int .i64 id.1, .int .u64 id.2, .bool plain, .slice a n c, .slice a' m c'] 42)) := (Below.refl _ _).alloc (Nat.le_refl _) _
  have HB : Hid (Below w.heap.size w (w.alloc (.cells #[.int .i64 id.1, .int .u64 id.2, .bool plain, .slice a n c, .slice a' m c'] 42))) := hb
  have hh := heap_alloc_new w (.cells #[.int .i64 id.1, .int .u64 id.2, .bool plain, .slice a n c, .slice a' m c'] 42)
  have c2 : (w.alloc (.cells #[.int .i64 id.1, .int .u64 id.2, .bool plain, .slice a n c, .slice a' m c'] 42)).cell? ⟨w.heap.size, 2, none⟩ = some (.bool plain) := cell_of_heap hh rfl
  have c3 : (w.alloc (.cells #[.int .i64 id.1, .int .u64 id.2, .bool plain, .slice a n c, .slice a' m c'] 42)).cell? ⟨w.heap.size, 3, none⟩ = some (.slice a n c) := cell_of_heap hh rfl
  have c4 : (w.alloc (.cells #[.int .i64 id.1, .int .u64 id.2, .bool plain, .slice a n c, .slice a' m c'] 42)).cell? ⟨w.heap.size, 4, none⟩ = some (.slice a' m c') := cell_of_heap hh rfl
  clear hb hh
  go_enter Try.func62, Try.ntmps62
  go_wp2_with fail
  generalize w.alloc (.cells #[.int .i64 id.1, .int .u64 id.2, .bool plain, .slice a n c, .slice a' m c'] 42) = w1 at *
  go_region
  cases plain
  · by_cases h1 : 0 < n + m
    · by_cases h2 : n ≤ 8
      · by_cases h3 : m ≤ 8
        · have HE : Hid (rcounts false n m = true) := by rw [Hid]; simp [rcounts, h2, h3]; omega
          go_wp2
          go_ret
          exact ⟨by rw [HE.out]; first | rfl | (simp; try omega), HB.out.drew⟩
        · have HE : Hid (rcounts false n m = false) := by rw [Hid]; simp [rcounts, h3]
          go_wp2
          go_ret
          exact ⟨by rw [HE.out]; first | rfl | (simp; try omega), HB.out.drew⟩
      · have HE : Hid (rcounts false n m = false) := by rw [Hid]; simp [rcounts, h2]
        go_wp2
        go_ret
        exact ⟨by rw [HE.out]; first | rfl | (simp; try omega), HB.out.drew⟩
    · have HE : Hid (rcounts false n m = false) := by rw [Hid]; simp [rcounts]; omega
      go_wp2
      go_ret
      exact ⟨by rw [HE.out]; first | rfl | (simp; try omega), HB.out.drew⟩
  · by_cases h1 : n = 0
    · by_cases h2 : m = 1
      · have HE : Hid (rcounts true n m = true) := by rw [Hid]; simp [rcounts, h1, h2]
        have b1 : ((n : Int) == 0) = true := by simp [h1]
        have b2 : ((m : Int) == 1) = true := by simp [h2]
        clear h1 h2
        go_wp2
        go_ret
        exact ⟨by rw [HE.out]; first | rfl | (simp; try omega), HB.out.drew⟩
      · have HE : Hid (rcounts true n m = false) := by rw [Hid]; simp [rcounts, h2]
        have b1 : ((n : Int) == 0) = true := by simp [h1]
        have b2 : ((m : Int) == 1) = false := by simp; omega
        clear h1 h2
        go_wp2
        go_ret
        exact ⟨by rw [HE.out]; first | rfl | (simp; try omega), HB.out.drew⟩
    · have HE : Hid (rcounts true n m = false) := by rw [Hid]; simp [rcounts, h1]
      have b1 : ((n : Int) == 0) = false := by simp; omega
      clear h1
      go_wp2
      go_ret
      exact ⟨by rw [HE.out]; first | rfl | (simp; try omega), HB.out.drew⟩
end Go.Proofs.Ytlefaicdcomkjaa
