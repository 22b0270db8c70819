/- What the functions of package frame, and of the laws' own answers for it, do, third part: contracts. -/
import Derived.Test.YtmlpneiadkngaaaDoorFrB
namespace Go.Proofs.YtmlpneiadkngaaaDoor
open Go.RowKit
set_option linter.unusedVariables false

theorem Own.sliceN {w : World} {base : Nat} {v : Value} {bs : List Nat} (h : Own w base v bs) (n : Nat) (hn : bs.length = n) :
    ∃ a cap, v = .slice a n cap ∧ Row w a n bs ∧ n ≤ cap ∧ cap ≤ maxLen ∧ (a = none → cap = 0) ∧ (∀ x, a = some x → base ≤ x.block) := by
  obtain ⟨a, m, cap, h1, h2, h3, h4, h5, h6⟩ := h.slice
  obtain rfl : m = n := by have := h2.1; omega
  exact ⟨a, cap, h1, h2, h3, h4, h5, h6⟩

theorem put_bad (a : Option Addr) (n cap : Nat) (w : World) (h : n < 1 ∨ 65535 < n) :
    Calls Tryd.prog 30 #[.slice a n cap] w fun e w' => e = .returned (.tuple #[.slice none 0 0, .int .i64 1]) ∧ w' = w := by
  rcases h with h | h
  · go_enter Tryd.func30, Tryd.ntmps30
    go_wp2
    go_ret2
    exact ⟨rfl, rfl⟩
  · go_enter Tryd.func30, Tryd.ntmps30
    go_wp2
    go_ret2
    exact ⟨rfl, rfl⟩

set_option maxRecDepth 100000 in
theorem put_ok (a : Option Addr) (n cap : Nat) (bs : List Nat) (w : World) (hr : Row w a n bs) (hz : a = none → cap = 0) (h1 : 1 ≤ n) (h2 : n ≤ 65535) :
    Calls Tryd.prog 30 #[.slice a n cap] w fun e w' => ∃ v, e = .returned (.tuple #[v, .int .i64 0]) ∧ Own w' w.heap.size v (Fr.put bs) ∧ Below w.heap.size w w' := by
  have hl := hr.1
  obtain ⟨x, hx⟩ : ∃ x, n / 256 = x := ⟨_, rfl⟩
  obtain ⟨y, hy⟩ : ∃ y, n % 256 = y := ⟨_, rfl⟩
  have hx1 : x < 256 := by omega
  have hy1 : y < 256 := by omega
  have hb1 := below_new w (.cells #[.int .u8 (x : Nat), .int .u8 (y : Nat)] 5)
  have ho := Own.new w w.heap.size (Nat.le_refl _) #[.int .u8 (x : Nat), .int .u8 (y : Nat)] [x, y] rfl (by intro z hz; simp at hz; omega) (by simp [maxLen])
  have hr1 := hr.later hb1
  have hsh : ((n : Int) / 256) % 256 = (x : Int) := by omega
  have hsh2 : ((n : Int) / 256) = (x : Int) := by omega
  have hmd : (n : Int) % 256 = (y : Int) := by omega
  have HB1 : Hid (Below w.heap.size w (w.alloc (.cells #[.int .u8 (x : Nat), .int .u8 (y : Nat)] 5))) := hb1
  have HP : Hid (Fr.put bs = 197 :: ((x :: y :: bs) ++ Crc.four (Crc.of (x :: y :: bs)))) := by unfold Hid Fr.put Fr.body; rw [hl, hx, hy]
  clear hr hb1
  go_enter Tryd.func30, Tryd.ntmps30
  go_wp2_with (at_builtin; refine wp_append_row rfl _ _ rfl w.heap.size _ [x, y] rfl ho _ _ _ bs rfl hr1 hz (by simp; omega) (by simp) ?_; intro v2 w2 ho2 hb2)
  have hsz2 : w.heap.size ≤ w2.heap.size := Nat.le_trans HB1.out.size hb2.size
  have HB2 : Hid (Below w.heap.size w w2) := HB1.out.trans hb2
  have hlen2 : ([x, y] ++ bs).length = n + 2 := by simp; omega
  obtain ⟨a2, cap2, hv2, hr2, hc2, hm2, hz2, _⟩ := ho2.sliceN (n + 2) hlen2
  subst hv2
  have HR2 : Hid (Row (w2.alloc (.cells #[.int .u8 197] 5)) a2 (n + 2) ([x, y] ++ bs)) := hr2.later (below_new _ _)
  have HO1 : Hid (Own (w2.alloc (.cells #[.int .u8 (197 : Nat)] 5)) w.heap.size (.slice (some ⟨w2.heap.size, 0, none⟩) [197].length [197].length) [197]) := Own.new w2 w.heap.size hsz2 #[.int .u8 (197 : Nat)] [197] rfl (by simp) (by simp [maxLen])
  have HB3 : Hid (Below w.heap.size w (w2.alloc (.cells #[.int .u8 197] 5))) := HB2.out.alloc hsz2 _
  clear ho ho2 hb2 hr2 hr1
  refine (seal_any a2 (n + 2) cap2 _ _ HR2.out hz2 (by omega)).mono ?_
  rintro e w4 ⟨v4, rfl, ho4, hb4⟩
  have ho1 : Own w4 w.heap.size (.slice (some ⟨w2.heap.size, 0, none⟩) [197].length [197].length) [197] := HO1.out.later hb4
  have HB4 : Hid (Below w.heap.size w w4) := HB3.out.trans (hb4.mono HB3.out.size)
  have hlen4 : ([x, y] ++ bs ++ Crc.four (Crc.of ([x, y] ++ bs))).length = n + 6 := by rw [List.length_append, hlen2, Fr.four_length]
  obtain ⟨a4, cap4, hv4, hr4, hc4, hm4, hz4, _⟩ := ho4.sliceN (n + 6) hlen4
  subst hv4
  have hsz4 : w.heap.size ≤ w4.heap.size := HB4.out.size
  clear ho4 hb4 hlen4 hlen2
  go_wp2_with (at_builtin; refine wp_append_row rfl _ _ rfl w.heap.size _ [197] rfl ho1 _ _ _ _ rfl hr4 hz4 (by simp; omega) hsz4 ?_; intro v5 w5 ho5 hb5)
  go_ret2
  refine ⟨_, rfl, ?_, HB4.out.trans hb5⟩
  rw [HP.out]
  exact ho5

end Go.Proofs.YtmlpneiadkngaaaDoor
