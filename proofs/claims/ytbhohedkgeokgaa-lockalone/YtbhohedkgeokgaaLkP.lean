/- The chapter's example; calls of a table that is not there. -/
import Derived.Test.YtbhohedkgeokgaaLkI
namespace Go.Proofs.Ytbhohedkgeokgaa
open Go Go.RowKit
set_option linter.unusedVariables false
set_option linter.unusedSimpArgs false

theorem right_a : right ⟨#[97]⟩ = true := by decide
theorem SR.made (w : World) (s : ByteArray) (hs : s.size ≤ 40) : SR (w.alloc (.cells #[.string s] 9)) (.slice (some ⟨w.heap.size, 0, none⟩) 1 1) [s] :=
  ⟨⟨rfl, .inr ⟨w.heap.size, 1, _, rfl, Nat.zero_le _, heap_alloc_new w _, Nat.le_refl _, by unfold maxLen; omega, rfl, rfl⟩⟩, by simp, by simpa using hs⟩
theorem Tb.new (w : World) : Tb (w.alloc (.cells #[.slice none 0 0, .slice none 0 0, .int .i64 0] 54)) w.heap.size w.heap.size [] [] 0 :=
  ⟨Nat.le_refl _, _, _, heap_alloc_new w _, SpO.nil _ _, SpO.nil _ _, by simp [Value.ownBlock]⟩
theorem ex1 : takeE [] 0 (1, 1) 1 [⟨#[97]⟩] [] = 0 := by simp [takeE, allR, holdsS, busyS, right_a, inK]
theorem ex2 (rv wv : Value) : takeE [⟨(1, 1), 1, 0, [⟨#[97]⟩], [], rv, wv⟩] 1 (2, 1) 2 [⟨#[97]⟩] [] = 0 := by simp [takeE, allR, holdsS, busyS, right_a, inK]
theorem ex3 (rv wv rv2 wv2 : Value) : takeE [⟨(1, 1), 1, 0, [⟨#[97]⟩], [], rv, wv⟩, ⟨(2, 1), 2, 0, [⟨#[97]⟩], [], rv2, wv2⟩] 2 (3, 1) 3 [] [⟨#[97]⟩] = 11 := by simp [takeE, allR, holdsS, busyS, right_a, inK]

theorem new_any (w : World) : Calls Try.prog 7 #[] w fun e w' => e = .returned (.pointer (some ⟨w.heap.size, 0, none⟩)) ∧ w' = w.alloc (.cells #[.slice none 0 0, .slice none 0 0, .int .i64 0] 54) := by
  go_enter Try.func7, Try.ntmps7
  go_wp2
  go_ret
  exact ⟨rfl, rfl⟩
set_option maxRecDepth 100000 in
set_option maxHeartbeats 2000000 in
theorem awake_any (w : World) : Calls Try.prog 17 #[] w fun e w' => e = .returned (.bool true) ∧ Below w.heap.size w w' := by
  have HT : Hid (Tb (w.alloc (.cells #[.slice none 0 0, .slice none 0 0, .int .i64 0] 54)) w.heap.size w.heap.size [] [] 0) := Tb.new w
  have HB : Hid (Below w.heap.size w (w.alloc (.cells #[.slice none 0 0, .slice none 0 0, .int .i64 0] 54))) := (Below.refl _ _).alloc (Nat.le_refl _) _
  go_enter Try.func17, Try.ntmps17
  go_wp2_with fail
  refine (new_any w).mono ?_
  rintro e w' ⟨rfl, hw⟩
  subst hw
  generalize w.alloc (.cells #[.slice none 0 0, .slice none 0 0, .int .i64 0] 54) = w0 at *
  go_wp2_with fail
  have hs0 : w.heap.size ≤ w0.heap.size := HB.out.size
  have hb1 : Below w0.heap.size w0 (w0.alloc (.cells #[.string ⟨#[97]⟩] 9)) := (Below.refl _ _).alloc (Nat.le_refl _) _
  have q1 := take_any w.heap.size w.heap.size [] [] 0 (1, 1) 1 _ _ [⟨#[97]⟩] [] _ (HT.out.later hb1) (SR.made w0 ⟨#[97]⟩ (by decide)) (SR.nil _) (by simp) (by simp; omega)
  refine q1.mono ?_
  rintro e w1 ⟨rfl, hT1, hF1⟩
  obtain ⟨rv, wv, hT1⟩ := hT1.yes ex1
  rw [ex1]
  have HT1 : Hid (Tb w1 w.heap.size w.heap.size ([] ++ [⟨(1, 1), 1, 0, [⟨#[97]⟩], [], rv, wv⟩]) [] 1) := hT1
  have HB1 : Hid (Below w.heap.size w w1) := (HB.out.trans (hb1.mono hs0)).trans (hF1.below (by simp; omega))
  clear q1 hT1 hF1 hb1 HT HB hs0
  go_wp2_with fail
  have hb1 : Below w1.heap.size w1 (w1.alloc (.cells #[.string ⟨#[97]⟩] 9)) := (Below.refl _ _).alloc (Nat.le_refl _) _
  have hs0 : w.heap.size ≤ w1.heap.size := HB1.out.size
  have q1 := take_any w.heap.size w.heap.size _ [] 1 (2, 1) 2 _ _ [⟨#[97]⟩] [] _ (HT1.out.later hb1) (SR.made w1 ⟨#[97]⟩ (by decide)) (SR.nil _) (by simp) (by simp; omega)
  refine q1.mono ?_
  rintro e w2 ⟨rfl, hT2, hF2⟩
  obtain ⟨rv2, wv2, hT2⟩ := hT2.yes (ex2 rv wv)
  rw [show takeE ([] ++ [⟨(1, 1), 1, 0, [⟨#[97]⟩], [], rv, wv⟩]) 1 (2, 1) 2 [⟨#[97]⟩] [] = 0 from ex2 rv wv]
  have HT2 : Hid (Tb w2 w.heap.size w.heap.size ([] ++ [⟨(1, 1), 1, 0, [⟨#[97]⟩], [], rv, wv⟩] ++ [⟨(2, 1), 2, 0, [⟨#[97]⟩], [], rv2, wv2⟩]) [] 2) := hT2
  have HB2 : Hid (Below w.heap.size w w2) := (HB1.out.trans (hb1.mono hs0)).trans (hF2.below (by simp; omega))
  clear q1 hT2 hF2 hb1 HT1 HB1 hs0
  go_wp2_with fail
  have hb1 : Below w2.heap.size w2 (w2.alloc (.cells #[.string ⟨#[97]⟩] 9)) := (Below.refl _ _).alloc (Nat.le_refl _) _
  have hs0 : w.heap.size ≤ w2.heap.size := HB2.out.size
  have q1 := take_any w.heap.size w.heap.size _ [] 2 (3, 1) 3 _ _ [] [⟨#[97]⟩] _ (HT2.out.later hb1) (SR.nil _) (SR.made w2 ⟨#[97]⟩ (by decide)) (by simp) (by simp; omega)
  refine q1.mono ?_
  rintro e w3 ⟨rfl, hT3, hF3⟩
  have e3 := ex3 rv wv rv2 wv2
  replace hT3 := hT3.no (by rw [show takeE ([] ++ [⟨(1, 1), 1, 0, [⟨#[97]⟩], [], rv, wv⟩] ++ [⟨(2, 1), 2, 0, [⟨#[97]⟩], [], rv2, wv2⟩]) 2 (3, 1) 3 [] [⟨#[97]⟩] = 11 from e3]; decide)
  rw [show takeE ([] ++ [⟨(1, 1), 1, 0, [⟨#[97]⟩], [], rv, wv⟩] ++ [⟨(2, 1), 2, 0, [⟨#[97]⟩], [], rv2, wv2⟩]) 2 (3, 1) 3 [] [⟨#[97]⟩] = 11 from e3]
  have q2 := len_any _ _ _ _ _ w3 hT3
  have HB3 : Hid (Below w.heap.size w w3) := (HB2.out.trans (hb1.mono hs0)).trans (hF3.below (by simp; omega))
  clear q1 hT3 hF3 hb1 HT2 HB2 hs0 e3
  go_wp2_with fail
  refine q2.mono ?_
  rintro e w4 ⟨rfl, hw⟩
  subst w4
  clear q2
  go_wp2
  go_ret
  exact ⟨rfl, HB3.out⟩

theorem nil_take (id : Id) (a : Int) (w : World) : Calls Try.prog 18 #[.pointer none, idv id, .int .i64 a, .slice none 0 0, .slice none 0 0] w fun e w' => e = .returned (.int .i64 2) ∧ Below w.heap.size w w' := by
  have HB : Hid (Below w.heap.size w (w.alloc (.cells #[.int .i64 id.1, .int .u64 id.2] 31))) := (Below.refl _ _).alloc (Nat.le_refl _) _
  go_enter Try.func18, Try.ntmps18
  go_wp2
  go_ret
  exact ⟨rfl, HB.out⟩
theorem nil_free (id : Id) (a : Int) (w : World) : Calls Try.prog 20 #[.pointer none, idv id, .int .i64 a] w fun e w' => e = .returned (.int .i64 2) ∧ Below w.heap.size w w' := by
  have HB : Hid (Below w.heap.size w (w.alloc (.cells #[.int .i64 id.1, .int .u64 id.2] 31))) := (Below.refl _ _).alloc (Nat.le_refl _) _
  go_enter Try.func20, Try.ntmps20
  go_wp2
  go_ret
  exact ⟨rfl, HB.out⟩
theorem nil_holds (id : Id) (w : World) : Calls Try.prog 9 #[.pointer none, idv id] w fun e w' => e = .returned (.bool false) ∧ Below w.heap.size w w' := by
  have HB : Hid (Below w.heap.size w ((w.alloc (.cells #[.int .i64 id.1, .int .u64 id.2] 31)).alloc (.cells #[.int .i64 id.1, .int .u64 id.2] 31))) := ((Below.refl _ _).alloc (Nat.le_refl _) _).alloc (by simp) _
  go_enter Try.func9, Try.ntmps9
  go_wp2
  go_ret
  exact ⟨rfl, HB.out⟩
theorem nil_busy (key : ByteArray) (b : Bool) (w : World) : Calls Try.prog 11 #[.pointer none, .string key, .bool b] w fun e w' => e = .returned (.bool false) ∧ Below w.heap.size w w' := by
  have HB : Hid (Below w.heap.size w ((w.alloc (.cells #[.string key] 9)).alloc (.cells #[.bool b] 4))) := ((Below.refl _ _).alloc (Nat.le_refl _) _).alloc (by simp) _
  go_enter Try.func11, Try.ntmps11
  go_wp2
  go_ret
  exact ⟨rfl, HB.out⟩
theorem nil_len (w : World) : Calls Try.prog 13 #[.pointer none] w fun e w' => e = .returned (.int .i64 0) ∧ w' = w := by
  go_enter Try.func13, Try.ntmps13
  go_wp2
  go_ret
  exact ⟨rfl, rfl⟩
theorem nil_writer (key : ByteArray) (n : Int) (w : World) : Calls Try.prog 15 #[.pointer none, .string key, .int .i64 n] w fun e w' => e = .returned (.tuple #[.agg #[.int .i64 0, .int .u64 0], .bool false]) ∧ Below w.heap.size w w' := by
  have HB : Hid (Below w.heap.size w (w.alloc (.cells #[.int .i64 0, .int .u64 0] 31))) := (Below.refl _ _).alloc (Nat.le_refl _) _
  have z0 : (w.alloc (.cells #[.int .i64 0, .int .u64 0] 31)).cell? ⟨w.heap.size, 0, none⟩ = some (.int .i64 0) := cell_of_heap (heap_alloc_new w _) rfl
  have z1 : (w.alloc (.cells #[.int .i64 0, .int .u64 0] 31)).cell? ⟨w.heap.size, 1, none⟩ = some (.int .u64 0) := cell_of_heap (heap_alloc_new w _) rfl
  go_enter Try.func15, Try.ntmps15
  go_wp2
  refine bodyPost_ret (v := .tuple #[.agg #[.int .i64 0, .int .u64 0], .bool false]) (by simp [results, Try.results15, go_sem, z0, z1]) rfl ?_
  exact ⟨rfl, HB.out⟩
end Go.Proofs.Ytbhohedkgeokgaa
