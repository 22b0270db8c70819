/- Keys: what may be one, its number, its shard: contracts of package keys and of the law's own answers. -/
import Derived.Test.YtbikepmnjgcgkaaKeA
namespace Go.Proofs.Ytbikepmnjgcgkaa
open Go.RowKit

/-- may it be a key, a value? -/
def right (s : ByteArray) : Bool := decide (1 ≤ s.size ∧ s.size ≤ 32) && signs s
def rightVal (s : ByteArray) : Bool := decide (s.size ≤ 64) && signs s

theorem kright_any (s : ByteArray) (w : World) (hs : s.size ≤ maxLen) :
    Calls Try.prog 34 #[.string s] w fun e w' => e = .returned (.bool (right s)) ∧ w' = w := by
  by_cases h1 : 1 ≤ s.size
  · by_cases h2 : s.size ≤ 32
    · rw [show right s = signs s by simp [right, h1, h2]]
      go_enter Try.func34, Try.ntmps34
      go_wp2_with fail
      refine (kplain_any s _ hs).mono ?_
      rintro e w1 ⟨rfl, hw⟩
      subst w1
      go_wp2
      go_ret
      exact ⟨rfl, rfl⟩
    · rw [show right s = false by simp [right, h2]]
      go_enter Try.func34, Try.ntmps34
      go_wp2
      go_ret
      exact ⟨rfl, rfl⟩
  · rw [show right s = false by simp [right, h1]]
    go_enter Try.func34, Try.ntmps34
    go_wp2
    go_ret
    exact ⟨rfl, rfl⟩

theorem ref_right_any (s : ByteArray) (w : World) (hs : s.size ≤ maxLen) :
    Calls Try.prog 35 #[.string s] w fun e w' => e = .returned (.bool (right s)) ∧ w' = w := by
  by_cases h1 : 1 ≤ s.size
  · by_cases h2 : s.size ≤ 32
    · rw [show right s = signs s by simp [right, h1, h2]]
      go_enter Try.func35, Try.ntmps35
      go_wp2_with fail
      refine (ref_signs_any s _ hs).mono ?_
      rintro e w1 ⟨rfl, hw⟩
      subst w1
      go_wp2
      go_ret
      exact ⟨rfl, rfl⟩
    · rw [show right s = false by simp [right, h2]]
      go_enter Try.func35, Try.ntmps35
      go_wp2
      go_ret
      exact ⟨rfl, rfl⟩
  · rw [show right s = false by simp [right, h1]]
    go_enter Try.func35, Try.ntmps35
    go_wp2
    go_ret
    exact ⟨rfl, rfl⟩

theorem krightVal_any (s : ByteArray) (w : World) (hs : s.size ≤ maxLen) :
    Calls Try.prog 36 #[.string s] w fun e w' => e = .returned (.bool (rightVal s)) ∧ w' = w := by
  by_cases h2 : s.size ≤ 64
  · rw [show rightVal s = signs s by simp [rightVal, h2]]
    go_enter Try.func36, Try.ntmps36
    go_wp2_with fail
    refine (kplain_any s _ hs).mono ?_
    rintro e w1 ⟨rfl, hw⟩
    subst w1
    go_wp2
    go_ret
    exact ⟨rfl, rfl⟩
  · rw [show rightVal s = false by simp [rightVal, h2]]
    go_enter Try.func36, Try.ntmps36
    go_wp2
    go_ret
    exact ⟨rfl, rfl⟩

theorem ref_rightVal_any (s : ByteArray) (w : World) (hs : s.size ≤ maxLen) :
    Calls Try.prog 37 #[.string s] w fun e w' => e = .returned (.bool (rightVal s)) ∧ w' = w := by
  by_cases h2 : s.size ≤ 64
  · rw [show rightVal s = signs s by simp [rightVal, h2]]
    go_enter Try.func37, Try.ntmps37
    go_wp2_with fail
    refine (ref_signs_any s _ hs).mono ?_
    rintro e w1 ⟨rfl, hw⟩
    subst w1
    go_wp2
    go_ret
    exact ⟨rfl, rfl⟩
  · rw [show rightVal s = false by simp [rightVal, h2]]
    go_enter Try.func37, Try.ntmps37
    go_wp2
    go_ret
    exact ⟨rfl, rfl⟩

/-- a key's number, behind so many bytes -/
def hsh (s : ByteArray) : Nat → Nat
  | 0 => 5381
  | i + 1 => (hsh s i * 33 % 4294967296) ^^^ bt s i
theorem hsh_lt (s : ByteArray) : ∀ i, hsh s i < 4294967296
  | 0 => by simp [hsh]
  | i + 1 => by
    have h1 : hsh s i * 33 % 4294967296 < 2 ^ 32 := by omega
    have h2 : bt s i < 2 ^ 32 := by have := bt_lt s i; omega
    have := Nat.xor_lt_two_pow h1 h2
    simpa [hsh] using this
theorem ofInt_i64 (a : Nat) (ha : a < 18446744073709551616) : (BitVec.ofInt 64 (a : Int)).toNat = a := ofInt_u64 a ha
theorem i64_xor_nat (a b : Nat) (ha : a < 4294967296) (hb : b < 4294967296) : bits .xor .i64 (a : Int) (b : Int) = ((a ^^^ b : Nat) : Int) := by
  have hx : a ^^^ b < 2 ^ 32 := Nat.xor_lt_two_pow (by omega) (by omega)
  show IntKind.i64.wrap ((BitVec.ofInt 64 (a : Int) ^^^ BitVec.ofInt 64 (b : Int)).toNat : Int) = _
  rw [BitVec.toNat_xor, ofInt_u64 a (by omega), ofInt_u64 b (by omega)]
  unfold IntKind.wrap
  simp [IntKind.bits, IntKind.signed]
  omega

set_option maxRecDepth 100000 in
theorem knumber_any (s : ByteArray) (w : World) (hs : s.size ≤ maxLen) :
    Calls Try.prog 40 #[.string s] w fun e w' => e = .returned (.int .u32 (hsh s s.size : Nat)) ∧ w' = w := by
  unfold maxLen at hs
  go_enter Try.func40, Try.ntmps40
  go_wp2
  go_loopw [3, 7] (fun c t wr => ∃ k h : Nat, t = .int .i64 (k : Nat) ∧ k ≤ s.size ∧ c = .int .u32 (h : Nat) ∧ h < 4294967296 ∧ Hid (h = hsh s k) ∧ wr = w) (fun _ t _ => s.size - (intOf t).toNat)
  case atStart => exact ⟨0, 5381, rfl, by omega, rfl, by omega, rfl, rfl⟩
  case round =>
    obtain ⟨k, h, rfl, hk, rfl, hh, HK, rfl⟩ := hrel
    by_cases hlt : k < s.size
    · have hix := index_str s k hlt
      have hcl := bt_lt s k
      have hnx := hsh_lt s (k + 1)
      have hxor := u32_xor_nat (h * 33 % 4294967296) (bt s k) (by omega) (by omega)
      have hne : (h * 33 % 4294967296) ^^^ bt s k = hsh s (k + 1) := by rw [HK.out]; rfl
      rw [hne, show ((h * 33 % 4294967296 : Nat) : Int) = (h : Int) * 33 % 4294967296 by omega] at hxor
      have HN : Hid ((h * 33 % 4294967296) ^^^ bt s k = hsh s (k + 1)) := hne
      clear hne
      generalize hc : bt s k = c at hix hcl hxor
      clear hc
      generalize hg : hsh s (k + 1) = h' at hnx hxor
      have HG : Hid (hsh s (k + 1) = h') := hg
      clear hg
      go_wp2
      go_roundw
      case rel => exact ⟨k + 1, h', by go_num, by omega, by first | rfl | rw [hxor], hnx, HG.out.symm, trivial⟩
      case measure => simp [intOf]; omega
    · obtain rfl : k = s.size := by omega
      go_wp2
      go_ret
      rw [HK.out]
      exact ⟨rfl, rfl⟩

set_option maxRecDepth 100000 in
theorem ref_number_any8 (s : ByteArray) (w : World) (hs : s.size ≤ maxLen) :
    Calls Try.prog 41 #[.string s] w fun e w' => e = .returned (.int .i64 (hsh s s.size : Nat)) ∧ w' = w := by
  unfold maxLen at hs
  go_enter Try.func41, Try.ntmps41
  go_wp2
  go_loopw [3, 4] (fun c t wr => ∃ k h : Nat, t = .int .i64 (k : Nat) ∧ k ≤ s.size ∧ c = .int .i64 (h : Nat) ∧ h < 4294967296 ∧ Hid (h = hsh s k) ∧ wr = w) (fun _ t _ => s.size - (intOf t).toNat)
  case atStart => exact ⟨0, 5381, rfl, by omega, rfl, by omega, rfl, rfl⟩
  case round =>
    obtain ⟨k, h, rfl, hk, rfl, hh, HK, rfl⟩ := hrel
    by_cases hlt : k < s.size
    · have hix := index_str s k hlt
      have hcl := bt_lt s k
      have hnx := hsh_lt s (k + 1)
      have hxor := i64_xor_nat (h * 33 % 4294967296) (bt s k) (by omega) (by omega)
      have hne : (h * 33 % 4294967296) ^^^ bt s k = hsh s (k + 1) := by rw [HK.out]; rfl
      rw [hne, show ((h * 33 % 4294967296 : Nat) : Int) = (h : Int) * 33 % 4294967296 by omega] at hxor
      have HN : Hid ((h * 33 % 4294967296) ^^^ bt s k = hsh s (k + 1)) := hne
      clear hne
      generalize hc : bt s k = c at hix hcl hxor
      clear hc
      generalize hg : hsh s (k + 1) = h' at hnx hxor
      have HG : Hid (hsh s (k + 1) = h') := hg
      clear hg
      go_wp2
      go_roundw
      case rel => exact ⟨k + 1, h', by go_num, by omega, by first | rfl | rw [hxor], hnx, HG.out.symm, trivial⟩
      case measure => simp [intOf]; omega
    · obtain rfl : k = s.size := by omega
      go_wp2
      go_ret
      rw [HK.out]
      exact ⟨rfl, rfl⟩

/-- of how many shards -/
def shn (n : Int) : Nat := (min (max n 1) 4).toNat
theorem shn_le (n : Int) : 1 ≤ shn n ∧ shn n ≤ 4 := by unfold shn; omega
def shard (s : ByteArray) (n : Int) : Nat := hsh s s.size % shn n
theorem shard_lt (s : ByteArray) (n : Int) : shard s n < shn n := Nat.mod_lt _ (by have := shn_le n; omega)

theorem kshard_any (s : ByteArray) (n : Int) (w : World) (hs : s.size ≤ maxLen) :
    Calls Try.prog 39 #[.string s, .int .i64 n] w fun e w' => e = .returned (.int .i64 (shard s n : Nat)) ∧ w' = w := by
  have hl := hsh_lt s s.size
  rcases (show n < 1 ∨ n = 1 ∨ n = 2 ∨ n = 3 ∨ n = 4 ∨ 4 < n by omega) with h | rfl | rfl | rfl | rfl | h
  · rw [show shard s n = hsh s s.size % 1 by unfold shard; rw [show shn n = 1 by unfold shn; omega]]
    go_enter Try.func39, Try.ntmps39
    go_wp2_with fail
    refine (knumber_any s _ hs).mono ?_
    rintro e w1 ⟨rfl, hw⟩
    subst w1
    go_wp2
    go_ret
    exact ⟨by simp, rfl⟩
  · rw [show shard s 1 = hsh s s.size % 1 by unfold shard; rw [show shn 1 = 1 by unfold shn; omega]]
    go_enter Try.func39, Try.ntmps39
    go_wp2_with fail
    refine (knumber_any s _ hs).mono ?_
    rintro e w1 ⟨rfl, hw⟩
    subst w1
    go_wp2
    go_ret
    exact ⟨by simp, rfl⟩
  · rw [show shard s 2 = hsh s s.size % 2 by unfold shard; rw [show shn 2 = 2 by unfold shn; omega]]
    go_enter Try.func39, Try.ntmps39
    go_wp2_with fail
    refine (knumber_any s _ hs).mono ?_
    rintro e w1 ⟨rfl, hw⟩
    subst w1
    go_wp2
    go_ret
    exact ⟨by simp, rfl⟩
  · rw [show shard s 3 = hsh s s.size % 3 by unfold shard; rw [show shn 3 = 3 by unfold shn; omega]]
    go_enter Try.func39, Try.ntmps39
    go_wp2_with fail
    refine (knumber_any s _ hs).mono ?_
    rintro e w1 ⟨rfl, hw⟩
    subst w1
    go_wp2
    go_ret
    exact ⟨by simp, rfl⟩
  · rw [show shard s 4 = hsh s s.size % 4 by unfold shard; rw [show shn 4 = 4 by unfold shn; omega]]
    go_enter Try.func39, Try.ntmps39
    go_wp2_with fail
    refine (knumber_any s _ hs).mono ?_
    rintro e w1 ⟨rfl, hw⟩
    subst w1
    go_wp2
    go_ret
    exact ⟨by simp, rfl⟩
  · rw [show shard s n = hsh s s.size % 4 by unfold shard; rw [show shn n = 4 by unfold shn; omega]]
    go_enter Try.func39, Try.ntmps39
    go_wp2_with fail
    refine (knumber_any s _ hs).mono ?_
    rintro e w1 ⟨rfl, hw⟩
    subst w1
    go_wp2
    go_ret
    exact ⟨by simp, rfl⟩

theorem ref_shard_any (s : ByteArray) (n : Int) (w : World) (hs : s.size ≤ maxLen) :
    Calls Try.prog 42 #[.string s, .int .i64 n] w fun e w' => e = .returned (.int .i64 (shard s n : Nat)) ∧ w' = w := by
  have hl := hsh_lt s s.size
  rcases (show n < 1 ∨ n = 1 ∨ n = 2 ∨ n = 3 ∨ n = 4 ∨ 4 < n by omega) with h | rfl | rfl | rfl | rfl | h
  · rw [show shard s n = hsh s s.size % 1 by unfold shard; rw [show shn n = 1 by unfold shn; omega]]
    go_enter Try.func42, Try.ntmps42
    go_wp2_with fail
    refine (ref_number_any8 s _ hs).mono ?_
    rintro e w1 ⟨rfl, hw⟩
    subst w1
    go_wp2
    go_ret
    exact ⟨by simp, rfl⟩
  · rw [show shard s 1 = hsh s s.size % 1 by unfold shard; rw [show shn 1 = 1 by unfold shn; omega]]
    go_enter Try.func42, Try.ntmps42
    go_wp2_with fail
    refine (ref_number_any8 s _ hs).mono ?_
    rintro e w1 ⟨rfl, hw⟩
    subst w1
    go_wp2
    go_ret
    exact ⟨by simp, rfl⟩
  · rw [show shard s 2 = hsh s s.size % 2 by unfold shard; rw [show shn 2 = 2 by unfold shn; omega]]
    go_enter Try.func42, Try.ntmps42
    go_wp2_with fail
    refine (ref_number_any8 s _ hs).mono ?_
    rintro e w1 ⟨rfl, hw⟩
    subst w1
    go_wp2
    go_ret
    exact ⟨by simp, rfl⟩
  · rw [show shard s 3 = hsh s s.size % 3 by unfold shard; rw [show shn 3 = 3 by unfold shn; omega]]
    go_enter Try.func42, Try.ntmps42
    go_wp2_with fail
    refine (ref_number_any8 s _ hs).mono ?_
    rintro e w1 ⟨rfl, hw⟩
    subst w1
    go_wp2
    go_ret
    exact ⟨by simp, rfl⟩
  · rw [show shard s 4 = hsh s s.size % 4 by unfold shard; rw [show shn 4 = 4 by unfold shn; omega]]
    go_enter Try.func42, Try.ntmps42
    go_wp2_with fail
    refine (ref_number_any8 s _ hs).mono ?_
    rintro e w1 ⟨rfl, hw⟩
    subst w1
    go_wp2
    go_ret
    exact ⟨by simp, rfl⟩
  · rw [show shard s n = hsh s s.size % 4 by unfold shard; rw [show shn n = 4 by unfold shn; omega]]
    go_enter Try.func42, Try.ntmps42
    go_wp2_with fail
    refine (ref_number_any8 s _ hs).mono ?_
    rintro e w1 ⟨rfl, hw⟩
    subst w1
    go_wp2
    go_ret
    exact ⟨by simp, rfl⟩

theorem str_a_size : ByteArray.size ⟨#[97]⟩ = 1 := rfl
theorem hsh_a : hsh ⟨#[97]⟩ (ByteArray.size ⟨#[97]⟩) = 177604 := by decide +kernel
theorem right_a : right ⟨#[97]⟩ = true := by
  have : signs ⟨#[97]⟩ = true := by
    apply decide_eq_true
    intro i hi
    rw [str_a_size] at hi
    obtain rfl : i = 0 := by omega
    decide +kernel
  rw [right, this]
  decide +kernel
theorem right_none : right ⟨#[]⟩ = false := by rw [right, decide_eq_false (by simp [ByteArray.size])]; rfl

theorem awake8_any (w : World) :
    Calls Try.prog 38 #[] w fun e w' => e = .returned (.bool true) ∧ w' = w := by
  go_enter Try.func38, Try.ntmps38
  go_wp2_with fail
  refine (knumber_any ⟨#[97]⟩ _ (by decide)).mono ?_
  rintro e w1 ⟨rfl, hw⟩
  subst w1
  rw [hsh_a]
  go_wp2_with fail
  refine (kright_any ⟨#[97]⟩ _ (by decide)).mono ?_
  rintro e w1 ⟨rfl, hw⟩
  subst w1
  rw [right_a]
  go_wp2_with fail
  refine (kright_any ⟨#[]⟩ _ (by decide)).mono ?_
  rintro e w1 ⟨rfl, hw⟩
  subst w1
  rw [right_none]
  go_wp2
  go_ret
  exact ⟨rfl, rfl⟩

/-- a text's first 80 bytes -/
def short (s : ByteArray) : ByteArray := if 80 < s.size then s.extract 0 80 else s
theorem short_size (s : ByteArray) : (short s).size ≤ 80 := by
  unfold short
  split
  · simp [ByteArray.size_extract]; omega
  · omega

theorem short_any (s : ByteArray) (w : World) :
    Calls Try.prog 33 #[.string s] w fun e w' => e = .returned (.string (short s)) ∧ w' = w := by
  by_cases h : 80 < s.size
  · rw [show short s = s.extract 0 80 by simp [short, h]]
    go_enter Try.func33, Try.ntmps33
    go_wp2
    go_ret
    exact ⟨rfl, rfl⟩
  · rw [show short s = s by simp [short, h]]
    go_enter Try.func33, Try.ntmps33
    go_wp2
    go_ret
    exact ⟨rfl, rfl⟩
end Go.Proofs.Ytbikepmnjgcgkaa
