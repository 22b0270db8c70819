/- Keys: what package keys, and the law's own answers, say of texts: contracts. -/
import Derived.Test.YtlefaicdcomkjaaBase
import Derived.Laws.BitsAllLaws
import Derived.Handy
namespace Go.Proofs.Ytlefaicdcomkjaa
open Go.RowKit

/-- a text's byte -/
def bt (s : ByteArray) (i : Nat) : Nat := (s.data[i]?.getD 0).toNat
theorem bt_lt (s : ByteArray) (i : Nat) : bt s i < 256 := (s.data[i]?.getD 0).toNat_lt
theorem index_str (s : ByteArray) (i : Nat) (h : i < s.size) (w : World) : (Instr.index 9 (.string s) (.int .i64 (i : Nat))).run Try.prog w = .ok (.int .u8 (bt s i : Nat)) w := by
  rw [run_index_string w 9 s .i64 i Try.underlying9, dif_pos (by omega)]
  have hd : i < s.data.size := h
  have e : (s[(i : Int).toNat]'(by omega)) = s.data[i]?.getD 0 := by
    rw [Array.getElem?_eq_getElem hd]
    rfl
  rw [e]
  rfl

/-- a small letter, a digit, or _ -/
def isSign (c : Nat) : Bool := decide (97 ≤ c ∧ c ≤ 122) || decide (48 ≤ c ∧ c ≤ 57) || decide (c = 95)
/-- all of a text's bytes are such -/
def signs (s : ByteArray) : Bool := decide (∀ i, i < s.size → isSign (bt s i) = true)

theorem plainByte_any (c : Nat) (w : World) :
    Calls Try.prog 70 #[.int .u8 c] w fun e w' => e = .returned (.bool (isSign c)) ∧ w' = w := by
  by_cases h1 : 97 ≤ c
  · by_cases h2 : c ≤ 122
    · rw [show isSign c = true by simp [isSign]; omega]
      go_enter Try.func70, Try.ntmps70
      go_wp2
      go_ret
      exact ⟨rfl, rfl⟩
    · rw [show isSign c = false by simp [isSign]; omega]
      have h3 : ¬ c ≤ 57 := by omega
      have h4 : 48 ≤ c := by omega
      have h5 : ¬ c = 95 := by omega
      go_enter Try.func70, Try.ntmps70
      go_wp2
      go_ret
      exact ⟨rfl, rfl⟩
  · by_cases h2 : 48 ≤ c
    · by_cases h3 : c ≤ 57
      · rw [show isSign c = true by simp [isSign]; omega]
        go_enter Try.func70, Try.ntmps70
        go_wp2
        go_ret
        exact ⟨rfl, rfl⟩
      · by_cases h4 : c = 95
        · subst h4
          rw [show isSign 95 = true by rfl]
          go_enter Try.func70, Try.ntmps70
          go_wp2
          go_ret
          exact ⟨rfl, rfl⟩
        · rw [show isSign c = false by simp [isSign]; omega]
          go_enter Try.func70, Try.ntmps70
          go_wp2
          go_ret
          exact ⟨rfl, rfl⟩
    · rw [show isSign c = false by simp [isSign]; omega]
      have h4 : ¬ c = 95 := by omega
      go_enter Try.func70, Try.ntmps70
      go_wp2
      go_ret
      exact ⟨rfl, rfl⟩

set_option maxRecDepth 100000 in
theorem kplain_any (s : ByteArray) (w : World) (hs : s.size ≤ maxLen) :
    Calls Try.prog 69 #[.string s] w fun e w' => e = .returned (.bool (signs s)) ∧ w' = w := by
  unfold maxLen at hs
  go_enter Try.func69, Try.ntmps69
  go_wp2
  go_loopw [6] (fun t wr => ∃ k : Nat, t = .int .i64 (k : Nat) ∧ k ≤ s.size ∧ Hid (∀ i, i < k → isSign (bt s i) = true) ∧ wr = w) (fun t _ => s.size - (intOf t).toNat)
  case atStart => exact ⟨0, rfl, by omega, fun i hi => by omega, rfl⟩
  case round =>
    obtain ⟨k, rfl, hk, HK, rfl⟩ := hrel
    by_cases h : k < s.size
    · have hix := index_str s k h
      generalize hc : bt s k = c at hix
      have HC : Hid (bt s k = c) := hc
      clear hc
      go_wp2_with fail
      refine (plainByte_any c _).mono ?_
      rintro e w1 ⟨rfl, hw⟩
      subst w1
      cases hg : isSign c
      · go_wp2
        go_ret
        refine ⟨?_, rfl⟩
        rw [show signs s = false by unfold signs; apply decide_eq_false; intro hh; have := hh k h; rw [HC.out, hg] at this; cases this]
        rfl
      · go_wp2
        go_roundw
        case rel => exact ⟨k + 1, by go_num, by omega, fun i hi => by by_cases e : i = k; (rw [e, HC.out]; exact hg); exact HK.out i (by omega), trivial⟩
        case measure => simp [intOf]; omega
    · obtain rfl : k = s.size := by omega
      have e1 : signs s = true := decide_eq_true HK.out
      go_wp2
      go_ret
      rw [e1]
      exact ⟨rfl, rfl⟩

set_option maxRecDepth 100000 in
theorem ref_signs_any (s : ByteArray) (w : World) (hs : s.size ≤ maxLen) :
    Calls Try.prog 61 #[.string s] w fun e w' => e = .returned (.bool (signs s)) ∧ w' = w := by
  unfold maxLen at hs
  go_enter Try.func61, Try.ntmps61
  go_wp2
  go_loopw [3] (fun t wr => ∃ k : Nat, t = .int .i64 (k : Nat) ∧ k ≤ s.size ∧ Hid (∀ i, i < k → isSign (bt s i) = true) ∧ wr = w) (fun t _ => s.size - (intOf t).toNat)
  case atStart => exact ⟨0, rfl, by omega, fun i hi => by omega, rfl⟩
  case round =>
    obtain ⟨k, rfl, hk, HK, rfl⟩ := hrel
    by_cases h : k < s.size
    · have hix := index_str s k h
      have hcl := bt_lt s k
      generalize hc : bt s k = c at hix hcl
      have HC : Hid (bt s k = c) := hc
      clear hc
      have hbad : isSign c = false → signs s = false := by
        intro hg; unfold signs; apply decide_eq_false; intro hh; have := hh k h; rw [HC.out, hg] at this; cases this
      have HBad : Hid (isSign c = false → signs s = false) := hbad
      clear hbad
      have HGood : Hid (isSign c = true → ∀ i, i < k + 1 → isSign (bt s i) = true) := fun hg i hi => by by_cases e : i = k; (rw [e, HC.out]; exact hg); exact HK.out i (by omega)
      rcases (show (97 ≤ c ∧ c ≤ 122) ∨ (97 ≤ c ∧ 122 < c) ∨ (c < 48) ∨ (48 ≤ c ∧ c ≤ 57) ∨ (c = 95) ∨ (57 < c ∧ c < 97 ∧ ¬ c = 95) by omega) with hh | hh | hh | hh | rfl | hh
      · have hg : isSign c = true := by simp [isSign]; omega
        obtain ⟨h1, h2⟩ := hh
        go_wp2
        go_roundw
        case rel => exact ⟨k + 1, by go_num, by omega, HGood.out hg, trivial⟩
        case measure => simp [intOf]; omega
      · have hg : isSign c = false := by simp [isSign]; omega
        obtain ⟨h1, h2⟩ := hh
        have b122 : decide ((c : Int) ≤ 122) = false := by simp; omega
        have b57 : decide ((c : Int) ≤ 57) = false := by simp; omega
        have h3 : ¬ c ≤ 57 := by omega
        have h4 : 48 ≤ c := by omega
        have h5 : ¬ c = 95 := by omega
        have b95 : ((c : Int) == 95) = false := by simp; omega
        go_wp2
        go_ret
        rw [HBad.out hg]
        exact ⟨rfl, rfl⟩
      · have hg : isSign c = false := by simp [isSign]; omega
        have h3 : ¬ 97 ≤ c := by omega
        have h5 : ¬ c = 95 := by omega
        have b95 : ((c : Int) == 95) = false := by simp; omega
        go_wp2
        go_ret
        rw [HBad.out hg]
        exact ⟨rfl, rfl⟩
      · have hg : isSign c = true := by simp [isSign]; omega
        obtain ⟨h1, h2⟩ := hh
        have h3 : ¬ 97 ≤ c := by omega
        go_wp2
        go_roundw
        case rel => exact ⟨k + 1, by go_num, by omega, HGood.out hg, trivial⟩
        case measure => simp [intOf]; omega
      · have hg : isSign 95 = true := by rfl
        go_wp2
        go_roundw
        case rel => exact ⟨k + 1, by go_num, by omega, HGood.out hg, trivial⟩
        case measure => simp [intOf]; omega
      · have hg : isSign c = false := by simp [isSign]; omega
        obtain ⟨h1, h2, h3⟩ := hh
        have h4 : ¬ 97 ≤ c := by omega
        have h5 : 48 ≤ c := by omega
        have b95 : ((c : Int) == 95) = false := by simp; omega
        have b57 : decide ((c : Int) ≤ 57) = false := by simp; omega
        go_wp2
        go_ret
        rw [HBad.out hg]
        exact ⟨rfl, rfl⟩
    · obtain rfl : k = s.size := by omega
      have e1 : signs s = true := decide_eq_true HK.out
      go_wp2
      go_ret
      rw [e1]
      exact ⟨rfl, rfl⟩
end Go.Proofs.Ytlefaicdcomkjaa
