/- What the functions of package frame, and of the laws' own answers for it, do, third part: contracts. -/
import Derived.Test.YtiemgdclhjdmlaaDoorFrB
import Derived.Test.YtiemgdclhjdmlaaDoorCrcG
namespace Go.Proofs.YtiemgdclhjdmlaaDoor
open Go.RowKit
set_option linter.unusedVariables false

theorem Own.sliceN {w : World} {base : Nat} {v : Value} {bs : List Nat} (h : Own w base v bs) (n : Nat) (hn : bs.length = n) :
    ∃ a cap, v = .slice a n cap ∧ Row w a n bs ∧ n ≤ cap ∧ cap ≤ maxLen ∧ (a = none → cap = 0) ∧ (∀ x, a = some x → base ≤ x.block) := by
  obtain ⟨a, m, cap, h1, h2, h3, h4, h5, h6⟩ := h.slice
  obtain rfl : m = n := by have := h2.1; omega
  exact ⟨a, cap, h1, h2, h3, h4, h5, h6⟩

theorem put_bad (a : Option Addr) (n cap : Nat) (w : World) (h : n < 1 ∨ 65535 < n) :
    Calls Tryd.prog 24 #[.slice a n cap] w fun e w' => e = .returned (.tuple #[.slice none 0 0, .int .i64 1]) ∧ w' = w := by
  rcases h with h | h
  · go_enter Tryd.func24, Tryd.ntmps24
    go_wp2
    go_ret2
    exact ⟨rfl, rfl⟩
  · go_enter Tryd.func24, Tryd.ntmps24
    go_wp2
    go_ret2
    exact ⟨rfl, rfl⟩

set_option maxRecDepth 100000 in
theorem put_ok (a : Option Addr) (n cap : Nat) (bs : List Nat) (w : World) (hr : Row w a n bs) (hz : a = none → cap = 0) (h1 : 1 ≤ n) (h2 : n ≤ 65535) :
    Calls Tryd.prog 24 #[.slice a n cap] w fun e w' => ∃ v, e = .returned (.tuple #[v, .int .i64 0]) ∧ Own w' w.heap.size v (Fr.put bs) ∧ Below w.heap.size w w' := by
  have hl := hr.1
  obtain ⟨x, hx⟩ : ∃ x, n / 256 = x := ⟨_, rfl⟩
  obtain ⟨y, hy⟩ : ∃ y, n % 256 = y := ⟨_, rfl⟩
  have hx1 : x < 256 := by omega
  have hy1 : y < 256 := by omega
  have hb1 := below_new w (.cells #[.int .u8 (x : Nat), .int .u8 (y : Nat)] 5)
  have ho := Own.new w w.heap.size (Nat.le_refl _) #[.int .u8 (x : Nat), .int .u8 (y : Nat)] [x, y] rfl (by intro z hz; simp at hz; omega) (by simp [maxLen])
  have hr1 := hr.later hb1
  have hsh : ((n : Int) / 256) % 256 = (x : Int) := by omega
  have hsh2 : ((n : Int) / 256) = (x : Int) := by omega
  have hmd : (n : Int) % 256 = (y : Int) := by omega
  have HB1 : Hid (Below w.heap.size w (w.alloc (.cells #[.int .u8 (x : Nat), .int .u8 (y : Nat)] 5))) := hb1
  have HP : Hid (Fr.put bs = 197 :: ((x :: y :: bs) ++ Crc.four (Crc.of (x :: y :: bs)))) := by unfold Hid Fr.put Fr.body; rw [hl, hx, hy]
  clear hr hb1
  go_enter Tryd.func24, Tryd.ntmps24
  go_wp2_with (at_builtin; refine wp_append_row rfl _ _ rfl w.heap.size _ [x, y] rfl ho _ _ _ bs rfl hr1 hz (by simp; omega) (by simp) ?_; intro v2 w2 ho2 hb2)
  have hsz2 : w.heap.size ≤ w2.heap.size := Nat.le_trans HB1.out.size hb2.size
  have HB2 : Hid (Below w.heap.size w w2) := HB1.out.trans hb2
  have hlen2 : ([x, y] ++ bs).length = n + 2 := by simp; omega
  obtain ⟨a2, cap2, hv2, hr2, hc2, hm2, hz2, _⟩ := ho2.sliceN (n + 2) hlen2
  subst hv2
  have HR2 : Hid (Row (w2.alloc (.cells #[.int .u8 197] 5)) a2 (n + 2) ([x, y] ++ bs)) := hr2.later (below_new _ _)
  have HO1 : Hid (Own (w2.alloc (.cells #[.int .u8 (197 : Nat)] 5)) w.heap.size (.slice (some ⟨w2.heap.size, 0, none⟩) [197].length [197].length) [197]) := Own.new w2 w.heap.size hsz2 #[.int .u8 (197 : Nat)] [197] rfl (by simp) (by simp [maxLen])
  have HB3 : Hid (Below w.heap.size w (w2.alloc (.cells #[.int .u8 197] 5))) := HB2.out.alloc hsz2 _
  clear ho ho2 hb2 hr2 hr1
  refine (seal_any a2 (n + 2) cap2 _ _ HR2.out hz2 (by omega)).mono ?_
  rintro e w4 ⟨v4, rfl, ho4, hb4⟩
  have ho1 : Own w4 w.heap.size (.slice (some ⟨w2.heap.size, 0, none⟩) [197].length [197].length) [197] := HO1.out.later hb4
  have HB4 : Hid (Below w.heap.size w w4) := HB3.out.trans (hb4.mono HB3.out.size)
  have hlen4 : ([x, y] ++ bs ++ Crc.four (Crc.of ([x, y] ++ bs))).length = n + 6 := by rw [List.length_append, hlen2, Fr.four_length]
  obtain ⟨a4, cap4, hv4, hr4, hc4, hm4, hz4, _⟩ := ho4.sliceN (n + 6) hlen4
  subst hv4
  have hsz4 : w.heap.size ≤ w4.heap.size := HB4.out.size
  clear ho4 hb4 hlen4 hlen2
  go_wp2_with (at_builtin; refine wp_append_row rfl _ _ rfl w.heap.size _ [197] rfl ho1 _ _ _ _ rfl hr4 hz4 (by simp; omega) hsz4 ?_; intro v5 w5 ho5 hb5)
  go_ret2
  refine ⟨_, rfl, ?_, HB4.out.trans hb5⟩
  rw [HP.out]
  exact ho5

set_option maxRecDepth 100000 in
theorem refput_any (a : Option Addr) (n cap : Nat) (bs : List Nat) (w : World) (hr : Row w a n bs) (hz : a = none → cap = 0) (h2 : n ≤ 65535) :
    Calls Tryd.prog 26 #[.slice a n cap] w fun e w' => ∃ v, e = .returned v ∧ Own w' w.heap.size v (Fr.put bs) ∧ Below w.heap.size w w' := by
  have hl := hr.1
  obtain ⟨x, hx⟩ : ∃ x, n / 256 = x := ⟨_, rfl⟩
  obtain ⟨y, hy⟩ : ∃ y, n % 256 = y := ⟨_, rfl⟩
  have hx1 : x < 256 := by omega
  have hy1 : y < 256 := by omega
  have hb1 := below_new w (.cells #[.int .u8 (x : Nat), .int .u8 (y : Nat)] 5)
  have ho := Own.new w w.heap.size (Nat.le_refl _) #[.int .u8 (x : Nat), .int .u8 (y : Nat)] [x, y] rfl (by intro z hz; simp at hz; omega) (by simp [maxLen])
  have hr1 := hr.later hb1
  have hsh2 : ((n : Int) / 256) = (x : Int) := by omega
  have hmd : (n : Int) % 256 = (y : Int) := by omega
  have HB1 : Hid (Below w.heap.size w (w.alloc (.cells #[.int .u8 (x : Nat), .int .u8 (y : Nat)] 5))) := hb1
  have HP : Hid (Fr.put bs = 197 :: ((x :: y :: bs) ++ Crc.four (Crc.of (x :: y :: bs)))) := by unfold Hid Fr.put Fr.body; rw [hl, hx, hy]
  have HBY : Hid (∀ z ∈ [x, y] ++ bs, z < 256) := by
    intro z hz
    simp at hz
    rcases hz with rfl | rfl | hz
    · exact hx1
    · exact hy1
    · exact hr.2.1 z hz
  clear hr hb1
  go_enter Tryd.func26, Tryd.ntmps26
  go_wp2_with (at_builtin; refine wp_append_row rfl _ _ rfl w.heap.size _ [x, y] rfl ho _ _ _ bs rfl hr1 hz (by simp; omega) (by simp) ?_; intro v2 w2 ho2 hb2)
  have hsz2 : w.heap.size ≤ w2.heap.size := Nat.le_trans HB1.out.size hb2.size
  have HB2 : Hid (Below w.heap.size w w2) := HB1.out.trans hb2
  have hlen2 : ([x, y] ++ bs).length = n + 2 := by simp; omega
  have HO2 : Hid (Own w2 w.heap.size v2 ([x, y] ++ bs)) := ho2
  obtain ⟨a2, cap2, hv2, hr2, hc2, hm2, hz2, _⟩ := ho2.sliceN (n + 2) hlen2
  subst hv2
  have HR2 : Hid (Row w2 a2 (n + 2) ([x, y] ++ bs)) := hr2
  clear ho ho2 hb2 hr2 hr1
  refine (ref_of_any a2 (n + 2) cap2 _ _ HR2.out).mono ?_
  rintro e w' ⟨rfl, hw⟩
  subst w'
  have hof := Crc.of_lt _ HBY.out
  obtain ⟨q, HQ⟩ : ∃ q, Hid (Crc.of ([x, y] ++ bs) = q) := ⟨Crc.of ([x, y] ++ bs), rfl⟩
  rw [HQ.out] at hof ⊢
  go_wp2_with fail
  refine (four_any q w2 hof).mono ?_
  rintro e w3 ⟨rfl, hr3, hb3⟩
  have ho3 : Own w3 w.heap.size (.slice a2 (n + 2) cap2) ([x, y] ++ bs) := HO2.out.later hb3
  have HB3 : Hid (Below w.heap.size w w3) := HB2.out.trans (hb3.mono hsz2)
  have hsz3 : w.heap.size ≤ w3.heap.size := HB3.out.size
  clear hb3
  have hlen4 : ([x, y] ++ bs ++ Crc.four q).length = n + 6 := by rw [List.length_append, hlen2, Fr.four_length]
  go_wp2_with (first
    | (at_builtin; refine wp_append_at rfl _ _ rfl w.heap.size _ _ rfl ho3 _ _ _ _ rfl hr3 (by simp) (by rw [hlen2]; omega) hsz3 (n + 6) hlen4 (by omega) ?_; intro g4 cap4 w4 hg4 hc4 hm4 ho4 hb4; have hsz4 : w.heap.size ≤ w4.heap.size := Nat.le_trans hsz3 hb4.size; have ho1 := Own.new w4 w.heap.size hsz4 #[.int .u8 (197 : Nat)] [197] rfl (by simp) (by simp [maxLen]); have hr5 := (Own.row ho4).later (below_new w4 (.cells #[.int .u8 (197 : Nat)] 5)))
    | (at_builtin; refine wp_append_row rfl _ _ rfl w.heap.size _ [197] rfl ho1 _ _ _ _ rfl hr5 (by simp) (by simp; omega) (by simp; omega) ?_; intro v5 w5 ho5 hb5))
  have HB5 : Hid (Below w.heap.size w (w4.alloc (.cells #[.int .u8 (197 : Nat)] 5))) := (HB3.out.trans hb4).alloc hsz4 _
  go_ret
  refine ⟨_, rfl, ?_, HB5.out.trans hb5⟩
  rw [HP.out]
  have := HQ.out
  simp only [List.cons_append, List.nil_append] at this ho5 ⊢
  rw [this]
  exact ho5

theorem few4_short (a : Option Addr) (len cap : Nat) (w : World) (h : len ≤ 200) :
    Calls Tryd.prog 23 #[.slice a len cap] w fun e w' => e = .returned (.slice a len cap) ∧ w' = w := by
  go_enter Tryd.func23, Tryd.ntmps23
  go_wp2
  go_ret
  exact ⟨rfl, rfl⟩
theorem few4_long (b off : Nat) (len cap : Nat) (w : World) (h : 200 < len) (hc : len ≤ cap) (hm : cap ≤ maxLen) :
    Calls Tryd.prog 23 #[.slice (some ⟨b, off, none⟩) len cap] w fun e w' => e = .returned (.slice (some ⟨b, off, none⟩) 200 cap) ∧ w' = w := by
  unfold maxLen at hm
  go_enter Tryd.func23, Tryd.ntmps23
  go_wp2
  go_ret
  exact ⟨rfl, rfl⟩
theorem few4_any (a : Option Addr) (len cap : Nat) (zs : List Int) (w : World) (h : IsRow .u8 w a len cap zs) :
    Calls Tryd.prog 23 #[.slice a len cap] w fun e w' => e = .returned (.slice a (min len 200) cap) ∧ w' = w := by
  by_cases hl : len ≤ 200
  · rw [Nat.min_eq_left hl]
    exact few4_short a len cap w hl
  · obtain ⟨b, off, rfl⟩ := h.addr (by omega)
    rw [Nat.min_eq_right (by omega)]
    exact few4_long b off len cap w (by omega) h.facts.1 h.facts.2.1

set_option maxRecDepth 100000 in
theorem awake4_any (w : World) :
    Calls Tryd.prog 25 #[] w fun e w' => e = .returned (.bool true) ∧ Below w.heap.size w w' := by
  have hr := Row.new w #[.int .u8 7] 5 (0, 0) [7] rfl (by decide) (by decide)
  have HB1 : Hid (Below w.heap.size w (w.alloc (.cells #[.int .u8 7] 5))) := below_new _ _
  have hp : ∃ c0 c1 c2 c3, Fr.put [7] = [197, 0, 1, 7, c0, c1, c2, c3] := ⟨_, _, _, _, rfl⟩
  obtain ⟨c0, c1, c2, c3, hp⟩ := hp
  go_enter Tryd.func25, Tryd.ntmps25
  go_wp2_with fail
  refine (put_ok _ 1 1 [7] _ hr (by simp) (by omega) (by omega)).mono ?_
  rintro e w2 ⟨v2, rfl, ho2, hb2⟩
  rw [hp] at ho2
  have HB2 : Hid (Below w.heap.size w w2) := HB1.out.trans (hb2.mono HB1.out.size)
  obtain ⟨a, cap, hv, hr2, hc, hm, _, _⟩ := ho2.sliceN 8 rfl
  obtain ⟨b, off, ha, hcell⟩ := hr2.at (by omega)
  subst ha
  subst hv
  have h0 := hcell 0 (by omega)
  have h2 := hcell 2 (by omega)
  rw [Nat.add_zero] at h0
  simp only [List.getElem?_cons_zero, List.getElem?_cons_succ, Option.getD_some] at h0 h2
  clear ho2 hb2 hr2 hcell hp hr
  go_wp2
  go_ret
  exact ⟨rfl, HB2.out⟩
end Go.Proofs.YtiemgdclhjdmlaaDoor
