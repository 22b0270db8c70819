/- slices.Grow of the nil slice, slices.Concat of two rows of bytes. -/
import Derived.Test.YtgpjplpfjghcgaaCpC
import Derived.Lib.AppendZerosOnto
namespace Go.Proofs.Ytgpjplpfjghcgaa
open Go Go.RowKit
set_option linter.unusedVariables false
set_option linter.unusedSimpArgs false

set_option maxHeartbeats 4000000 in
set_option maxRecDepth 100000 in
theorem grow_none (n : Nat) (w : World) (h0 : 0 < n) (hn : n ≤ 1000000) :
    Calls Try.prog 57 #[.slice none 0 0, .int .i64 (n : Nat)] w fun e w' => (∃ v, e = .returned v ∧ Own w' w.heap.size v []) ∧ Below w.heap.size w w' := by
  obtain ⟨i0, hi, hz0, hz1, hz2⟩ := info_parts Try.info_5
  have h1 : ¬ ((n : Int) < 0) := by omega
  have h4 : (n : Int) > 0 := by omega
  have hold : (Builtin.firstCells i0.size 0 (.slice none 0 0)).run Try.prog w.drew = .ok (([] : List Value)).toArray w.drew := run_firstCells_none w.drew i0.size 0 0 0
  have hrz : ∀ ty, (Builtin.append_ #[48, 3] ty #[.slice none 0 0, .int .i64 (n : Int)]).run Try.prog w =
      .ok (.slice (some ⟨w.heap.size, 0, none⟩) n (grownCap w n 0 5)) (w.drew.alloc (.cells (Builtin.zeroCells (Value.int .u8 0).cells n ++ Builtin.zeroCells (Value.int .u8 0).cells (grownCap w n 0 5 - n)) 5)) := fun ty => by
    have h := Lib.run_append_grow_zeros (P := Try.prog) w 48 3 ty 5 i0 (.int .u8 0) .i64 .i64 Try.underlying48 Try.underlying3 hi hz0 none 0 0 [] hold n h0 (by omega) (by omega) (by omega)
      (by rw [hz2]; omega) (by rw [hz2]; exact growslice_fits (by omega) (by omega))
    simpa using h
  have hGn : n ≤ grownCap w n 0 5 := grownCap_ge w _ _ _
  have hGm : grownCap w n 0 5 ≤ maxLen := grownCap_le_maxLen w n 0 5 (by unfold maxLen; omega)
  have hsz : (Builtin.zeroCells (Value.int .u8 0).cells n ++ Builtin.zeroCells (Value.int .u8 0).cells (grownCap w n 0 5 - n)).size = grownCap w n 0 5 := by
    simp [Builtin.zeroCells, Value.cells]; omega
  generalize grownCap w n 0 5 = G at *
  generalize (Builtin.zeroCells (Value.int .u8 0).cells n ++ Builtin.zeroCells (Value.int .u8 0).cells (G - n)) = C at *
  have hG63 : G ≤ 9223372036854775807 := by unfold maxLen at hGm; omega
  have HA : Hid ((w.drew.alloc (.cells C 5)).ownsRow w.heap.size 5 1 (.slice (some ⟨w.heap.size, 0, none⟩) 0 G) 0 []) := World.ownsRow_made w.drew C G (Nat.le_refl _) hGm (by rw [hsz]; omega)
  have HB : Hid (Below w.heap.size w (w.drew.alloc (.cells C 5))) := (Below.refl _ _).drew.alloc (Nat.le_refl _) _
  clear hold hsz hi hz0 hz1 hz2 hGm
  go_enter Try.func57, Try.ntmps57
  go_wp2_with (at_builtin; refine Lib.wpList_append_run _ rfl _ _ _ _ rfl _ _ rfl rfl _ _ (hrz _) ?_)
  all_goals (go_ret; exact ⟨⟨_, rfl, HA.out, by simp⟩, HB.out⟩)

set_option maxHeartbeats 4000000 in
set_option maxRecDepth 100000 in
theorem concat_any (g : Nat) (a b : Option Addr) (n m c d : Nat) (xs ys : List Nat) (w : World)
    (hg0 : w.cell? ⟨g, 0, none⟩ = some (.slice a n c)) (hg1 : w.cell? ⟨g, 1, none⟩ = some (.slice b m d))
    (hx : Row w a n xs) (hy : Row w b m ys) (hac : a = none → c = 0) (hbc : b = none → d = 0) (h0 : 0 < n + m) (hm : n + m ≤ 1000000) :
    Calls Try.prog 44 #[.slice (some ⟨g, 0, none⟩) 2 2] w fun e w' => (∃ v, e = .returned v ∧ Own w' w.heap.size v (xs ++ ys)) ∧ Below w.heap.size w w' := by
  have HX : Hid (Row w a n xs) := hx
  have HY : Hid (Row w b m ys) := hy
  have HG0 : Hid (w.cell? ⟨g, 0, none⟩ = some (.slice a n c)) := hg0
  have HG1 : Hid (w.cell? ⟨g, 1, none⟩ = some (.slice b m d)) := hg1
  clear hx hy hg0 hg1
  go_enter Try.func44, Try.ntmps44
  go_wp2
  go_loopw [3, 11] (fun s i wr => ∃ k : Nat, k ≤ 2 ∧ i = .int .i64 (k : Nat) ∧ s = .int .i64 ((if k = 0 then 0 else if k = 1 then n else n + m : Nat) : Nat) ∧ Hid (∃ q, wr = w.drewN q)) (fun _ i _ => 2 - (intOf i).toNat)
  case atStart => exact ⟨0, by omega, rfl, rfl, 0, rfl⟩
  case round =>
    obtain ⟨k, hk, rfl, rfl, HQ⟩ := hrel
    obtain ⟨q, rfl⟩ := HQ.out
    by_cases hlt : k < 2
    · have hc : ∃ (a' : Option Addr) (n' c' : Nat), n' ≤ 1000000 ∧ w.cell? ⟨g, k, none⟩ = some (.slice a' n' c') ∧ (if k + 1 = 0 then 0 else if k + 1 = 1 then n else n + m) = (if k = 0 then 0 else if k = 1 then n else n + m) + n' := by
        have hk2 : k = 0 ∨ k = 1 := by omega
        rcases hk2 with rfl | rfl
        · exact ⟨a, n, c, by omega, HG0.out, by simp⟩
        · exact ⟨b, m, d, by omega, HG1.out, by simp⟩
      obtain ⟨a', n', c', hn', q0, hS⟩ := hc
      have HS : Hid ((if k + 1 = 0 then 0 else if k + 1 = 1 then n else n + m) = (if k = 0 then 0 else if k = 1 then n else n + m) + n') := hS
      clear hS
      have hle : (if k = 0 then 0 else if k = 1 then n else n + m) ≤ 1000000 := by
        repeat' split
        all_goals omega
      generalize (if k = 0 then 0 else if k = 1 then n else n + m) = S at *
      have t5 : ¬ (((S : Int) + (n' : Int)) < 0) := by omega
      go_wp2
      go_roundw
      case rel => exact ⟨k + 1, by omega, by go_num, by rw [HS.out]; go_num, _, rfl⟩
      case measure => simp [intOf]; omega
    · obtain rfl : k = 2 := by omega
      have HGR := grow_none (n + m) (w.drewN q) h0 hm
      have e9 : (if (2 : Nat) = 0 then 0 else if (2 : Nat) = 1 then n else n + m) = n + m := by simp
      rw [e9]
      go_wp2_with fail
      refine HGR.mono ?_
      clear HGR
      rintro e w1 ⟨⟨v1, rfl, ho⟩, hb⟩
      have HO : Hid (Own w1 w.heap.size v1 []) := ho
      have HB : Hid (Below w.heap.size w w1) := (below_drewN (Below.refl _ _) q).trans hb
      clear ho hb
      go_wp2
      go_loopw [6, 27] (fun v i wr => ∃ k : Nat, k ≤ 2 ∧ i = .int .i64 (k : Nat) ∧ Hid (Own wr w.heap.size v (if k = 0 then [] else if k = 1 then xs else xs ++ ys) ∧ Below w.heap.size w wr)) (fun _ i _ => 2 - (intOf i).toNat)
      case atStart => exact ⟨0, by omega, rfl, HO.out, HB.out⟩
      case round =>
        obtain ⟨k, hk, rfl, HP⟩ := hrel
        by_cases hlt : k < 2
        · have hc : ∃ (a' : Option Addr) (n' c' : Nat) (zs : List Nat), (w.cell? ⟨g, k, none⟩ = some (.slice a' n' c') ∧ Row w a' n' zs ∧ (a' = none → c' = 0)) ∧ (if k + 1 = 0 then [] else if k + 1 = 1 then xs else xs ++ ys) = (if k = 0 then [] else if k = 1 then xs else xs ++ ys) ++ zs ∧ (if k = 0 then [] else if k = 1 then xs else xs ++ ys).length + n' ≤ 1000000 := by
            have hx := HX.out.1
            have hy := HY.out.1
            have hk2 : k = 0 ∨ k = 1 := by omega
            rcases hk2 with rfl | rfl
            · exact ⟨a, n, c, xs, ⟨HG0.out, HX.out, hac⟩, by simp, by simp; omega⟩
            · exact ⟨b, m, d, ys, ⟨HG1.out, HY.out, hbc⟩, by simp, by simp; omega⟩
          obtain ⟨a', n', c', zs, HC, hS, hL⟩ := hc
          have HR : Hid (Row w a' n' zs ∧ (a' = none → c' = 0)) := HC.2
          have q0 : wr.cell? ⟨g, k, none⟩ = some (.slice a' n' c') := cell_later HP.out.2 HC.1
          have HS : Hid ((if k + 1 = 0 then [] else if k + 1 = 1 then xs else xs ++ ys) = (if k = 0 then [] else if k = 1 then xs else xs ++ ys) ++ zs) := hS
          clear hS HC
          generalize (if k = 0 then [] else if k = 1 then xs else xs ++ ys) = S at *
          go_wp2_with (at_builtin; refine wp_append_row rfl _ _ rfl w.heap.size _ S rfl HP.out.1 a' n' c' zs rfl (HR.out.1.later HP.out.2) HR.out.2 (by omega) HP.out.2.size ?_; intro v2 w2 ho2 hb2)
          go_roundw
          case rel => exact ⟨k + 1, by omega, by go_num, by rw [HS.out]; exact ho2, HP.out.2.trans hb2⟩
          case measure => simp [intOf]; omega
        · obtain rfl : k = 2 := by omega
          go_wp2
          go_ret
          exact ⟨⟨_, rfl, HP.out.1⟩, HP.out.2⟩
end Go.Proofs.Ytgpjplpfjghcgaa
