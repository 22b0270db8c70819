/- A key's number, its shard; the shards of keys. -/
import Derived.Test.YteokhedljfakkaaDoorKeB
import Derived.Test.YteokhedljfakkaaDoorVec
import Derived.Test.YteokhedljfakkaaDoorEnD
namespace Go.Proofs.YteokhedljfakkaaDoor
open Go.RowKit

/-- a key's number, behind so many bytes -/
def hsh (s : ByteArray) : Nat → Nat
  | 0 => 5381
  | i + 1 => (hsh s i * 33 % 4294967296) ^^^ bt s i
theorem hsh_lt (s : ByteArray) : ∀ i, hsh s i < 4294967296
  | 0 => by simp [hsh]
  | i + 1 => by
    have h1 : hsh s i * 33 % 4294967296 < 2 ^ 32 := by omega
    have h2 : bt s i < 2 ^ 32 := by have := bt_lt s i; omega
    have := Nat.xor_lt_two_pow h1 h2
    simpa [hsh] using this
theorem ofInt_i64 (a : Nat) (ha : a < 18446744073709551616) : (BitVec.ofInt 64 (a : Int)).toNat = a := ofInt_u64 a ha
theorem i64_xor_nat (a b : Nat) (ha : a < 4294967296) (hb : b < 4294967296) : bits .xor .i64 (a : Int) (b : Int) = ((a ^^^ b : Nat) : Int) := by
  have hx : a ^^^ b < 2 ^ 32 := Nat.xor_lt_two_pow (by omega) (by omega)
  show IntKind.i64.wrap ((BitVec.ofInt 64 (a : Int) ^^^ BitVec.ofInt 64 (b : Int)).toNat : Int) = _
  rw [BitVec.toNat_xor, ofInt_u64 a (by omega), ofInt_u64 b (by omega)]
  unfold IntKind.wrap
  simp [IntKind.bits, IntKind.signed]
  omega

set_option maxRecDepth 100000 in
theorem knumber_any (s : ByteArray) (w : World) (hs : s.size ≤ maxLen) :
    Calls Tryd.prog 67 #[.string s] w fun e w' => e = .returned (.int .u32 (hsh s s.size : Nat)) ∧ w' = w := by
  unfold maxLen at hs
  go_enter Tryd.func67, Tryd.ntmps67
  go_wp2
  go_loopw [3, 7] (fun c t wr => ∃ k h : Nat, t = .int .i64 (k : Nat) ∧ k ≤ s.size ∧ c = .int .u32 (h : Nat) ∧ h < 4294967296 ∧ Hid (h = hsh s k) ∧ wr = w) (fun _ t _ => s.size - (intOf t).toNat)
  case atStart => exact ⟨0, 5381, rfl, by omega, rfl, by omega, rfl, rfl⟩
  case round =>
    obtain ⟨k, h, rfl, hk, rfl, hh, HK, rfl⟩ := hrel
    by_cases hlt : k < s.size
    · have hix := index_str s k hlt
      have hcl := bt_lt s k
      have hnx := hsh_lt s (k + 1)
      have hxor := u32_xor_nat (h * 33 % 4294967296) (bt s k) (by omega) (by omega)
      have hne : (h * 33 % 4294967296) ^^^ bt s k = hsh s (k + 1) := by rw [HK.out]; rfl
      rw [hne, show ((h * 33 % 4294967296 : Nat) : Int) = (h : Int) * 33 % 4294967296 by omega] at hxor
      have HN : Hid ((h * 33 % 4294967296) ^^^ bt s k = hsh s (k + 1)) := hne
      clear hne
      generalize hc : bt s k = c at hix hcl hxor
      clear hc
      generalize hg : hsh s (k + 1) = h' at hnx hxor
      have HG : Hid (hsh s (k + 1) = h') := hg
      clear hg
      go_wp2
      go_roundw
      case rel => exact ⟨k + 1, h', by go_num, by omega, by first | rfl | rw [hxor], hnx, HG.out.symm, trivial⟩
      case measure => simp [intOf]; omega
    · obtain rfl : k = s.size := by omega
      go_wp2
      go_ret
      rw [HK.out]
      exact ⟨rfl, rfl⟩

set_option maxRecDepth 100000 in
theorem ref_number_any8 (s : ByteArray) (w : World) (hs : s.size ≤ maxLen) :
    Calls Tryd.prog 45 #[.string s] w fun e w' => e = .returned (.int .i64 (hsh s s.size : Nat)) ∧ w' = w := by
  unfold maxLen at hs
  go_enter Tryd.func45, Tryd.ntmps45
  go_wp2
  go_loopw [3, 4] (fun c t wr => ∃ k h : Nat, t = .int .i64 (k : Nat) ∧ k ≤ s.size ∧ c = .int .i64 (h : Nat) ∧ h < 4294967296 ∧ Hid (h = hsh s k) ∧ wr = w) (fun _ t _ => s.size - (intOf t).toNat)
  case atStart => exact ⟨0, 5381, rfl, by omega, rfl, by omega, rfl, rfl⟩
  case round =>
    obtain ⟨k, h, rfl, hk, rfl, hh, HK, rfl⟩ := hrel
    by_cases hlt : k < s.size
    · have hix := index_str s k hlt
      have hcl := bt_lt s k
      have hnx := hsh_lt s (k + 1)
      have hxor := i64_xor_nat (h * 33 % 4294967296) (bt s k) (by omega) (by omega)
      have hne : (h * 33 % 4294967296) ^^^ bt s k = hsh s (k + 1) := by rw [HK.out]; rfl
      rw [hne, show ((h * 33 % 4294967296 : Nat) : Int) = (h : Int) * 33 % 4294967296 by omega] at hxor
      have HN : Hid ((h * 33 % 4294967296) ^^^ bt s k = hsh s (k + 1)) := hne
      clear hne
      generalize hc : bt s k = c at hix hcl hxor
      clear hc
      generalize hg : hsh s (k + 1) = h' at hnx hxor
      have HG : Hid (hsh s (k + 1) = h') := hg
      clear hg
      go_wp2
      go_roundw
      case rel => exact ⟨k + 1, h', by go_num, by omega, by first | rfl | rw [hxor], hnx, HG.out.symm, trivial⟩
      case measure => simp [intOf]; omega
    · obtain rfl : k = s.size := by omega
      go_wp2
      go_ret
      rw [HK.out]
      exact ⟨rfl, rfl⟩

/-- of how many shards -/
def shn (n : Int) : Nat := (min (max n 1) 4).toNat
theorem shn_le (n : Int) : 1 ≤ shn n ∧ shn n ≤ 4 := by unfold shn; omega
def shard (s : ByteArray) (n : Int) : Nat := hsh s s.size % shn n
theorem shard_lt (s : ByteArray) (n : Int) : shard s n < shn n := Nat.mod_lt _ (by have := shn_le n; omega)

theorem kshard_any (s : ByteArray) (n : Int) (w : World) (hs : s.size ≤ maxLen) :
    Calls Tryd.prog 44 #[.string s, .int .i64 n] w fun e w' => e = .returned (.int .i64 (shard s n : Nat)) ∧ w' = w := by
  have hl := hsh_lt s s.size
  rcases (show n < 1 ∨ n = 1 ∨ n = 2 ∨ n = 3 ∨ n = 4 ∨ 4 < n by omega) with h | rfl | rfl | rfl | rfl | h
  · rw [show shard s n = hsh s s.size % 1 by unfold shard; rw [show shn n = 1 by unfold shn; omega]]
    go_enter Tryd.func44, Tryd.ntmps44
    go_wp2_with fail
    refine (knumber_any s _ hs).mono ?_
    rintro e w1 ⟨rfl, hw⟩
    subst w1
    go_wp2
    go_ret
    exact ⟨by simp, rfl⟩
  · rw [show shard s 1 = hsh s s.size % 1 by unfold shard; rw [show shn 1 = 1 by unfold shn; omega]]
    go_enter Tryd.func44, Tryd.ntmps44
    go_wp2_with fail
    refine (knumber_any s _ hs).mono ?_
    rintro e w1 ⟨rfl, hw⟩
    subst w1
    go_wp2
    go_ret
    exact ⟨by simp, rfl⟩
  · rw [show shard s 2 = hsh s s.size % 2 by unfold shard; rw [show shn 2 = 2 by unfold shn; omega]]
    go_enter Tryd.func44, Tryd.ntmps44
    go_wp2_with fail
    refine (knumber_any s _ hs).mono ?_
    rintro e w1 ⟨rfl, hw⟩
    subst w1
    go_wp2
    go_ret
    exact ⟨by simp, rfl⟩
  · rw [show shard s 3 = hsh s s.size % 3 by unfold shard; rw [show shn 3 = 3 by unfold shn; omega]]
    go_enter Tryd.func44, Tryd.ntmps44
    go_wp2_with fail
    refine (knumber_any s _ hs).mono ?_
    rintro e w1 ⟨rfl, hw⟩
    subst w1
    go_wp2
    go_ret
    exact ⟨by simp, rfl⟩
  · rw [show shard s 4 = hsh s s.size % 4 by unfold shard; rw [show shn 4 = 4 by unfold shn; omega]]
    go_enter Tryd.func44, Tryd.ntmps44
    go_wp2_with fail
    refine (knumber_any s _ hs).mono ?_
    rintro e w1 ⟨rfl, hw⟩
    subst w1
    go_wp2
    go_ret
    exact ⟨by simp, rfl⟩
  · rw [show shard s n = hsh s s.size % 4 by unfold shard; rw [show shn n = 4 by unfold shn; omega]]
    go_enter Tryd.func44, Tryd.ntmps44
    go_wp2_with fail
    refine (knumber_any s _ hs).mono ?_
    rintro e w1 ⟨rfl, hw⟩
    subst w1
    go_wp2
    go_ret
    exact ⟨by simp, rfl⟩

theorem ref_shard_any (s : ByteArray) (n : Int) (w : World) (hs : s.size ≤ maxLen) :
    Calls Tryd.prog 27 #[.string s, .int .i64 n] w fun e w' => e = .returned (.int .i64 (shard s n : Nat)) ∧ w' = w := by
  have hl := hsh_lt s s.size
  rcases (show n < 1 ∨ n = 1 ∨ n = 2 ∨ n = 3 ∨ n = 4 ∨ 4 < n by omega) with h | rfl | rfl | rfl | rfl | h
  · rw [show shard s n = hsh s s.size % 1 by unfold shard; rw [show shn n = 1 by unfold shn; omega]]
    go_enter Tryd.func27, Tryd.ntmps27
    go_wp2_with fail
    refine (ref_number_any8 s _ hs).mono ?_
    rintro e w1 ⟨rfl, hw⟩
    subst w1
    go_wp2
    go_ret
    exact ⟨by simp, rfl⟩
  · rw [show shard s 1 = hsh s s.size % 1 by unfold shard; rw [show shn 1 = 1 by unfold shn; omega]]
    go_enter Tryd.func27, Tryd.ntmps27
    go_wp2_with fail
    refine (ref_number_any8 s _ hs).mono ?_
    rintro e w1 ⟨rfl, hw⟩
    subst w1
    go_wp2
    go_ret
    exact ⟨by simp, rfl⟩
  · rw [show shard s 2 = hsh s s.size % 2 by unfold shard; rw [show shn 2 = 2 by unfold shn; omega]]
    go_enter Tryd.func27, Tryd.ntmps27
    go_wp2_with fail
    refine (ref_number_any8 s _ hs).mono ?_
    rintro e w1 ⟨rfl, hw⟩
    subst w1
    go_wp2
    go_ret
    exact ⟨by simp, rfl⟩
  · rw [show shard s 3 = hsh s s.size % 3 by unfold shard; rw [show shn 3 = 3 by unfold shn; omega]]
    go_enter Tryd.func27, Tryd.ntmps27
    go_wp2_with fail
    refine (ref_number_any8 s _ hs).mono ?_
    rintro e w1 ⟨rfl, hw⟩
    subst w1
    go_wp2
    go_ret
    exact ⟨by simp, rfl⟩
  · rw [show shard s 4 = hsh s s.size % 4 by unfold shard; rw [show shn 4 = 4 by unfold shn; omega]]
    go_enter Tryd.func27, Tryd.ntmps27
    go_wp2_with fail
    refine (ref_number_any8 s _ hs).mono ?_
    rintro e w1 ⟨rfl, hw⟩
    subst w1
    go_wp2
    go_ret
    exact ⟨by simp, rfl⟩
  · rw [show shard s n = hsh s s.size % 4 by unfold shard; rw [show shn n = 4 by unfold shn; omega]]
    go_enter Tryd.func27, Tryd.ntmps27
    go_wp2_with fail
    refine (ref_number_any8 s _ hs).mono ?_
    rintro e w1 ⟨rfl, hw⟩
    subst w1
    go_wp2
    go_ret
    exact ⟨by simp, rfl⟩

theorem Tryd.info_3 : (Tryd.prog.info? 3).map (fun i => (i.zero, i.size, i.bytes)) = some (some (.int .i64 0), 1, 8) := by kernel_rfl
/-- texts, as a slice's elements lie in memory -/
def Strs (w : World) (a : Option Addr) (n : Nat) (ss : List ByteArray) : Prop :=
  ss.length = n ∧ (∀ x ∈ ss, x.size ≤ maxLen) ∧ n ≤ maxLen ∧ (n = 0 ∨ ∃ b off, a = some ⟨b, off, none⟩ ∧ ∀ j x, ss[j]? = some x → w.cell? ⟨b, off + j, none⟩ = some (.string x))

theorem Strs.later {w wx : World} {a : Option Addr} {n : Nat} {ss : List ByteArray} (hr : Strs w a n ss) (hb : Below w.heap.size w wx) : Strs wx a n ss := by
  obtain ⟨h1, h2, h3, h⟩ := hr
  refine ⟨h1, h2, h3, ?_⟩
  rcases h with h | ⟨b, off, h, hc⟩
  · exact .inl h
  · exact .inr ⟨b, off, h, fun i x hi => cell_later hb (hc i x hi)⟩
theorem Strs.none {w : World} {a : Option Addr} : Strs w a 0 [] := ⟨rfl, by simp, by simp [maxLen], .inl rfl⟩
theorem Strs.of {w : World} {x : Addr} {len cap : Nat} {ss : List ByteArray} (hl : len ≤ cap) (hm : cap ≤ maxLen) (hz : ss.length = cap)
    (hcell : ∀ i, i < ss.length → w.cell? (x.add i) = some (.string (ss.getD i ByteArray.empty))) (hw : ∀ s ∈ ss, s.size ≤ maxLen) : Strs w (some x) len (ss.take len) := by
  refine ⟨by simp; omega, fun y hy => hw y (List.mem_of_mem_take hy), by omega, ?_⟩
  by_cases h0 : len = 0
  · exact .inl h0
  · right
    obtain ⟨b, off, spot⟩ := x
    have hc := hcell 0 (by omega)
    have hspot : spot = .none := by simpa [Addr.add] using World.cell?_spot hc
    subst hspot
    refine ⟨b, off, rfl, fun j y hj => ?_⟩
    have hj2 : j < (ss.take len).length := (List.getElem?_eq_some_iff.1 hj).1
    simp at hj2
    have h1 := hcell j (by omega)
    rw [Addr.add_lit] at h1
    rw [h1]
    rw [List.getElem?_take_of_lt (by omega)] at hj
    simp [hj]

/-- is one of the keys of that shard? -/
def inn (ss : List ByteArray) (n : Int) (j : Nat) : Bool := ss.any fun s => shard s n == j
theorem inn_more (ss : List ByteArray) (n : Int) (j k : Nat) (h : k < ss.length) : inn (ss.take (k + 1)) n j = (inn (ss.take k) n j || (shard ss[k] n == j)) := by
  unfold inn
  rw [List.take_succ_eq_append_getElem h, List.any_append]
  simp
/-- the numbers below that are so -/
def sel (B : Nat → Bool) (k : Nat) : List Value := ((List.range k).filter B).map fun (i : Nat) => Value.int .i64 (i : Nat)
theorem sel_len (B : Nat → Bool) (k : Nat) : (sel B k).length ≤ k := by
  unfold sel
  rw [List.length_map]
  exact Nat.le_trans (List.length_filter_le _ _) (by simp)
theorem sel_more (B : Nat → Bool) (k : Nat) : sel B (k + 1) = if B k then sel B k ++ [.int .i64 (k : Nat)] else sel B k := by
  unfold sel
  rw [List.range_succ, List.filter_append]
  by_cases h : B k <;> simp [h]

set_option maxRecDepth 100000 in
set_option maxHeartbeats 1000000 in
theorem kshards_any (a : Option Addr) (len cap : Nat) (ss : List ByteArray) (n : Int) (w : World) (hr : Strs w a len ss) :
    Calls Tryd.prog 43 #[.slice a len cap, .int .i64 n] w fun e w' => ∃ v, e = .returned v ∧ OwnV w' w.heap.size 3 v (sel (inn ss n) 4) ∧ Below w.heap.size w w' := by
  obtain ⟨hl, hx, hm, hr⟩ := hr
  unfold maxLen at hm
  go_enter Tryd.func43, Tryd.ntmps43
  go_wp2
  go_loopw [13] (fun i wr => ∃ (k : Nat) (b0 b1 b2 b3 : Bool), k ≤ len ∧ i = .int .i64 k ∧ wr.heap[w.heap.size]? = some (.cells #[.bool b0, .bool b1, .bool b2, .bool b3] 103 (0, 0)) ∧ Hid (b0 = inn (ss.take k) n 0 ∧ b1 = inn (ss.take k) n 1 ∧ b2 = inn (ss.take k) n 2 ∧ b3 = inn (ss.take k) n 3) ∧ Hid (Below w.heap.size w wr)) (fun i wr => len - (intOf i).toNat)
  case atStart => exact ⟨0, false, false, false, false, by omega, rfl, by show (w.heap.push _)[w.heap.size]? = _; simp, by simp [Hid, inn], (Below.refl _ _).alloc (Nat.le_refl _) _⟩
  case round =>
    obtain ⟨k, b0, b1, b2, b3, hk, rfl, hh, HB, HW⟩ := hrel
    by_cases h0 : k < len
    · obtain ⟨b, off, rfl, hc⟩ : ∃ b off, a = some ⟨b, off, none⟩ ∧ ∀ j x, ss[j]? = some x → w.cell? ⟨b, off + j, none⟩ = some (.string x) := by
        rcases hr with h | h
        · omega
        · exact h
      have hkl : k < ss.length := by omega
      have hc1 : wr.cell? ⟨b, off + k, none⟩ = some (.string ss[k]) := cell_later HW.out (hc k _ (List.getElem?_eq_getElem hkl))
      have hxs := hx ss[k] (List.getElem_mem hkl)
      have HM : Hid (∀ j, inn (ss.take (k + 1)) n j = (inn (ss.take k) n j || (shard ss[k] n == j))) := fun j => inn_more ss n j k hkl
      have hsh := shard_lt ss[k] n
      have hn4 := shn_le n
      generalize ss[k] = x at hc1 hxs HM hsh
      have fr : ∀ j, wr.frozen? ⟨w.heap.size, j, none⟩ = false := fun j => frozen_of_row wr _ _ _ _ hh
      have c0 : wr.cell? ⟨w.heap.size, 0, none⟩ = some (.bool b0) := cell_of_heap hh rfl
      have c1 : wr.cell? ⟨w.heap.size, 1, none⟩ = some (.bool b1) := cell_of_heap hh rfl
      have c2 : wr.cell? ⟨w.heap.size, 2, none⟩ = some (.bool b2) := cell_of_heap hh rfl
      have c3 : wr.cell? ⟨w.heap.size, 3, none⟩ = some (.bool b3) := cell_of_heap hh rfl
      have HH : Hid (wr.heap[w.heap.size]? = some (.cells #[.bool b0, .bool b1, .bool b2, .bool b3] 103 (0, 0))) := hh
      clear hr hc hx hh
      go_wp2_with fail
      refine (kshard_any x n _ hxs).mono ?_
      rintro e w1 ⟨rfl, hw⟩
      subst w1
      generalize hj : shard x n = j at *
      rcases (show j = 0 ∨ j = 1 ∨ j = 2 ∨ j = 3 by omega) with rfl | rfl | rfl | rfl
      · have f0 := fr 0
        go_wp2
        go_roundw
        case rel => exact ⟨k + 1, true, b1, b2, b3, by omega, by go_num, heap_setCell_same wr _ 0 _ 103 _ HH.out, by unfold Hid; rw [HM.out, HM.out, HM.out, HM.out, ← HB.out.1, ← HB.out.2.1, ← HB.out.2.2.1, ← HB.out.2.2.2]; simp, HW.out.setCell (Nat.le_refl _) _⟩
        case measure => simp [intOf]; omega
      · have f1 := fr 1
        go_wp2
        go_roundw
        case rel => exact ⟨k + 1, b0, true, b2, b3, by omega, by go_num, heap_setCell_same wr _ 1 _ 103 _ HH.out, by unfold Hid; rw [HM.out, HM.out, HM.out, HM.out, ← HB.out.1, ← HB.out.2.1, ← HB.out.2.2.1, ← HB.out.2.2.2]; simp, HW.out.setCell (Nat.le_refl _) _⟩
        case measure => simp [intOf]; omega
      · have f2 := fr 2
        go_wp2
        go_roundw
        case rel => exact ⟨k + 1, b0, b1, true, b3, by omega, by go_num, heap_setCell_same wr _ 2 _ 103 _ HH.out, by unfold Hid; rw [HM.out, HM.out, HM.out, HM.out, ← HB.out.1, ← HB.out.2.1, ← HB.out.2.2.1, ← HB.out.2.2.2]; simp, HW.out.setCell (Nat.le_refl _) _⟩
        case measure => simp [intOf]; omega
      · have f3 := fr 3
        go_wp2
        go_roundw
        case rel => exact ⟨k + 1, b0, b1, b2, true, by omega, by go_num, heap_setCell_same wr _ 3 _ 103 _ HH.out, by unfold Hid; rw [HM.out, HM.out, HM.out, HM.out, ← HB.out.1, ← HB.out.2.1, ← HB.out.2.2.1, ← HB.out.2.2.2]; simp, HW.out.setCell (Nat.le_refl _) _⟩
        case measure => simp [intOf]; omega
    · obtain rfl : k = len := by omega
      have c0 : wr.cell? ⟨w.heap.size, 0, none⟩ = some (.bool b0) := cell_of_heap hh rfl
      have c1 : wr.cell? ⟨w.heap.size, 1, none⟩ = some (.bool b1) := cell_of_heap hh rfl
      have c2 : wr.cell? ⟨w.heap.size, 2, none⟩ = some (.bool b2) := cell_of_heap hh rfl
      have c3 : wr.cell? ⟨w.heap.size, 3, none⟩ = some (.bool b3) := cell_of_heap hh rfl
      rw [List.take_of_length_le (by omega)] at HB
      clear hh hr hx
      have hB0 : Hid (inn ss n 0 = b0) := HB.out.1.symm
      have hB1 : Hid (inn ss n 1 = b1) := HB.out.2.1.symm
      have hB2 : Hid (inn ss n 2 = b2) := HB.out.2.2.1.symm
      have hB3 : Hid (inn ss n 3 = b3) := HB.out.2.2.2.symm
      obtain ⟨B, hBe⟩ : ∃ B, B = inn ss n := ⟨_, rfl⟩
      rw [← hBe] at hB0 hB1 hB2 hB3
      have HBe : Hid (B = inn ss n) := hBe
      clear HB hBe
      go_wp2
      go_loopw [8, 23] (fun o i wx => ∃ k, k ≤ 4 ∧ i = .int .i64 (k : Nat) ∧ Hid (OwnV wx w.heap.size 3 o (sel B k)) ∧ Hid (Below w.heap.size w wx)) (fun o i wx => 4 - (intOf i).toNat)
      case atStart => exact ⟨0, by omega, rfl, OwnV.nil _ _ _, HW⟩
      case round =>
        clear c0 c1 c2 c3 HW
        obtain ⟨k, hk, rfl, HO, HW⟩ := hrel
        by_cases h4 : k < 4
        · have hsl := sel_len B k
          have HM : Hid (sel B (k + 1) = _) := sel_more B k
          have hsz := HW.out.size
          rcases (show k = 0 ∨ k = 1 ∨ k = 2 ∨ k = 3 by omega) with rfl | rfl | rfl | rfl
          · have ix : ∀ w, (Instr.index 103 (.agg #[.bool b0, .bool b1, .bool b2, .bool b3]) (.int .i64 0)).run Tryd.prog w = .ok (.bool b0) w := fun _ => by kernel_rfl
            rw [hB0.out] at HM
            clear hB0
            cases b0
            · go_wp2
              go_roundw
              case rel => exact ⟨0 + 1, by omega, by go_num, by unfold Hid; rw [HM.out]; exact HO.out, HW⟩
              case measure => simp [intOf]
            · go_wp2_with (at_builtin; refine wp_append_one 58 3 _ 8 Tryd.underlying58 Tryd.info_3 rfl rfl _ _ rfl w.heap.size _ _ rfl (HO.out.alloc _) _ _ (.int .i64 0) rfl (by simp) rfl (by omega) (by omega) (by simp; omega) ?_; intro v2 w2 ho2 hb2)
              go_roundw
              case rel => exact ⟨0 + 1, by omega, by go_num, by unfold Hid; rw [HM.out]; exact ho2, (HW.out.alloc hsz _).trans hb2⟩
              case measure => simp [intOf]
          · have ix : ∀ w, (Instr.index 103 (.agg #[.bool b0, .bool b1, .bool b2, .bool b3]) (.int .i64 1)).run Tryd.prog w = .ok (.bool b1) w := fun _ => by kernel_rfl
            rw [hB1.out] at HM
            clear hB1
            cases b1
            · go_wp2
              go_roundw
              case rel => exact ⟨1 + 1, by omega, by go_num, by unfold Hid; rw [HM.out]; exact HO.out, HW⟩
              case measure => simp [intOf]
            · go_wp2_with (at_builtin; refine wp_append_one 58 3 _ 8 Tryd.underlying58 Tryd.info_3 rfl rfl _ _ rfl w.heap.size _ _ rfl (HO.out.alloc _) _ _ (.int .i64 1) rfl (by simp) rfl (by omega) (by omega) (by simp; omega) ?_; intro v2 w2 ho2 hb2)
              go_roundw
              case rel => exact ⟨1 + 1, by omega, by go_num, by unfold Hid; rw [HM.out]; exact ho2, (HW.out.alloc hsz _).trans hb2⟩
              case measure => simp [intOf]
          · have ix : ∀ w, (Instr.index 103 (.agg #[.bool b0, .bool b1, .bool b2, .bool b3]) (.int .i64 2)).run Tryd.prog w = .ok (.bool b2) w := fun _ => by kernel_rfl
            rw [hB2.out] at HM
            clear hB2
            cases b2
            · go_wp2
              go_roundw
              case rel => exact ⟨2 + 1, by omega, by go_num, by unfold Hid; rw [HM.out]; exact HO.out, HW⟩
              case measure => simp [intOf]
            · go_wp2_with (at_builtin; refine wp_append_one 58 3 _ 8 Tryd.underlying58 Tryd.info_3 rfl rfl _ _ rfl w.heap.size _ _ rfl (HO.out.alloc _) _ _ (.int .i64 2) rfl (by simp) rfl (by omega) (by omega) (by simp; omega) ?_; intro v2 w2 ho2 hb2)
              go_roundw
              case rel => exact ⟨2 + 1, by omega, by go_num, by unfold Hid; rw [HM.out]; exact ho2, (HW.out.alloc hsz _).trans hb2⟩
              case measure => simp [intOf]
          · have ix : ∀ w, (Instr.index 103 (.agg #[.bool b0, .bool b1, .bool b2, .bool b3]) (.int .i64 3)).run Tryd.prog w = .ok (.bool b3) w := fun _ => by kernel_rfl
            rw [hB3.out] at HM
            clear hB3
            cases b3
            · go_wp2
              go_roundw
              case rel => exact ⟨3 + 1, by omega, by go_num, by unfold Hid; rw [HM.out]; exact HO.out, HW⟩
              case measure => simp [intOf]
            · go_wp2_with (at_builtin; refine wp_append_one 58 3 _ 8 Tryd.underlying58 Tryd.info_3 rfl rfl _ _ rfl w.heap.size _ _ rfl (HO.out.alloc _) _ _ (.int .i64 3) rfl (by simp) rfl (by omega) (by omega) (by simp; omega) ?_; intro v2 w2 ho2 hb2)
              go_roundw
              case rel => exact ⟨3 + 1, by omega, by go_num, by unfold Hid; rw [HM.out]; exact ho2, (HW.out.alloc hsz _).trans hb2⟩
              case measure => simp [intOf]
        · obtain rfl : k = 4 := by omega
          go_wp2
          go_ret
          exact ⟨_, rfl, by rw [← HBe.out]; exact HO.out, HW.out⟩

set_option maxRecDepth 100000 in
set_option maxHeartbeats 1000000 in
theorem ref_shards_any (a : Option Addr) (len cap : Nat) (ss : List ByteArray) (n : Int) (w : World) (hr : Strs w a len ss) :
    Calls Tryd.prog 24 #[.slice a len cap, .int .i64 n] w fun e w' => ∃ v, e = .returned v ∧ OwnV w' w.heap.size 3 v (sel (inn ss n) 4) ∧ Below w.heap.size w w' := by
  obtain ⟨hl, hx, hm, hr⟩ := hr
  unfold maxLen at hm
  have HX : Hid (∀ x ∈ ss, x.size ≤ maxLen) := hx
  have HR : Hid (len = 0 ∨ ∃ b off, a = some ⟨b, off, none⟩ ∧ ∀ j x, ss[j]? = some x → w.cell? ⟨b, off + j, none⟩ = some (.string x)) := hr
  clear hx hr
  go_enter Tryd.func24, Tryd.ntmps24
  go_wp2
  go_loopw [5, 6] (fun o i wr => ∃ k : Nat, k ≤ 4 ∧ i = .int .i64 (k : Nat) ∧ Hid (OwnV wr w.heap.size 3 o (sel (inn ss n) k)) ∧ Hid (Below w.heap.size w wr)) (fun o i wr => 4 - (intOf i).toNat)
  case atStart => exact ⟨0, by omega, rfl, OwnV.nil _ _ _, Below.refl _ _⟩
  case round =>
    obtain ⟨k, hk, rfl, HO, HW⟩ := hrel
    by_cases h4 : k < 4
    · go_wp2
      rw [show decide ((k : Int) < 4) = true by simp; omega]
      go_loopw [7, 16] (fun c i wx => ∃ (j : Nat) (b : Bool), j ≤ len ∧ i = .int .i64 (j : Nat) ∧ c = .bool b ∧ Hid (b = inn (ss.take j) n k) ∧ wx = wr) (fun c i wx => len - (intOf i).toNat)
      case atStart => exact ⟨0, false, by omega, rfl, rfl, by simp [Hid, inn], rfl⟩
      case round =>
        obtain ⟨j, b, hj, rfl, rfl, HB, rfl⟩ := hrel
        by_cases h0 : j < len
        · obtain ⟨bb, off, rfl, hc⟩ : ∃ b off, a = some ⟨b, off, none⟩ ∧ ∀ j x, ss[j]? = some x → w.cell? ⟨b, off + j, none⟩ = some (.string x) := by
            rcases HR.out with h | h
            · omega
            · exact h
          have hkl : j < ss.length := by omega
          have hc1 : wr.cell? ⟨bb, off + j, none⟩ = some (.string ss[j]) := cell_later HW.out (hc j _ (List.getElem?_eq_getElem hkl))
          have hxs := HX.out ss[j] (List.getElem_mem hkl)
          have HM : Hid (inn (ss.take (j + 1)) n k = (inn (ss.take j) n k || (shard ss[j] n == k))) := inn_more ss n k j hkl
          generalize ss[j] = x at hc1 hxs HM
          clear hc
          cases b
          · go_wp2_with fail
            refine (ref_shard_any x n _ hxs).mono ?_
            rintro e w1 ⟨rfl, hw⟩
            subst w1
            by_cases hsk : shard x n = k
            · have hbe : ((shard x n : Int) == (k : Int)) = true := by simp; omega
              go_wp2
              go_roundw
              case rel => exact ⟨j + 1, true, by omega, by go_num, rfl, by unfold Hid; rw [HM.out]; simp [hsk], trivial⟩
              case measure => simp [intOf]; omega
            · have hbe : ((shard x n : Int) == (k : Int)) = false := by simp; omega
              go_wp2
              go_roundw
              case rel => exact ⟨j + 1, false, by omega, by go_num, rfl, by unfold Hid; rw [HM.out, ← HB.out]; simp [hsk], trivial⟩
              case measure => simp [intOf]; omega
          · go_wp2
            go_roundw
            case rel => exact ⟨j + 1, true, by omega, by go_num, rfl, by unfold Hid; rw [HM.out, ← HB.out]; simp, trivial⟩
            case measure => simp [intOf]; omega
        · obtain rfl : j = len := by omega
          have hbe : b = inn ss n k := by rw [HB.out, List.take_of_length_le (by omega)]
          have HM : Hid (sel (inn ss n) (k + 1) = _) := sel_more (inn ss n) k
          rw [← hbe] at HM
          have hsl := sel_len (inn ss n) k
          have hsz := HW.out.size
          clear hbe HB
          cases b
          · go_wp2
            go_roundw
            case rel => exact ⟨k + 1, by omega, by go_num, by unfold Hid; rw [HM.out]; exact HO.out, HW⟩
            case measure => simp [intOf]; omega
          · go_wp2_with (at_builtin; refine wp_append_one 58 3 _ 8 Tryd.underlying58 Tryd.info_3 rfl rfl _ _ rfl w.heap.size _ _ rfl (HO.out.alloc _) _ _ (.int .i64 (k : Nat)) rfl (by simp) rfl (by omega) (by omega) (by simp; omega) ?_; intro v2 w2 ho2 hb2)
            go_roundw
            case rel => exact ⟨k + 1, by omega, by go_num, by unfold Hid; rw [HM.out]; exact ho2, (HW.out.alloc hsz _).trans hb2⟩
            case measure => simp [intOf]; omega
    · obtain rfl : k = 4 := by omega
      go_wp2
      go_ret
      exact ⟨_, rfl, HO.out, HW.out⟩
end Go.Proofs.YteokhedljfakkaaDoor
