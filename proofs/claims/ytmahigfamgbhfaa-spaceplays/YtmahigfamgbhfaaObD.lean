/- How many versions are not later than a number: found by halves; copies; the last one. -/
import Derived.Test.YtmahigfamgbhfaaObB
namespace Go.Proofs.Ytmahigfamgbhfaa
open Go.RowKit

theorem later_any (bo bn b off n cap : Nat) (m p : Int) (i : Nat) (W : World) (hi : i < n)
    (ho : W.cell? ⟨bo, 0, none⟩ = some (.slice (some ⟨b, off, none⟩) n cap)) (hm : W.cell? ⟨bn, 0, none⟩ = some (.int .i64 m)) (hc : W.cell? ⟨b, off + i * 4, none⟩ = some (.int .i64 p)) :
    Calls Try.prog 63 (#[.int .i64 (i : Nat)] ++ #[.pointer (some ⟨bo, 0, none⟩), .pointer (some ⟨bn, 0, none⟩)]) W fun e w' => e = .returned (.bool (decide (m < p))) ∧ ∃ q, w' = W.drewN q := by
  have hiz : (i : Int) < (n : Int) := by omega
  go_enter Try.func63, Try.ntmps63
  go_wp2
  go_quiet (fail)
  go_wp2
  go_ret
  exact ⟨by first | rfl | simp, _, rfl⟩

set_option maxRecDepth 100000 in
set_option maxHeartbeats 2000000 in
theorem search_any (bo bn n cap : Nat) (a : Option Addr) (m : Int) (l : List Ver) (w : World) (hr : VRow w a n l) (hri : Rises l) (hlen : n ≤ 1000000000)
    (ho : w.cell? ⟨bo, 0, none⟩ = some (.slice a n cap)) (hm : w.cell? ⟨bn, 0, none⟩ = some (.int .i64 m)) :
    Calls Try.prog 62 #[.int .i64 (n : Nat), .func (.func 63) #[] #[.pointer (some ⟨bo, 0, none⟩), .pointer (some ⟨bn, 0, none⟩)]] w fun e w' => e = .returned (.int .i64 (upTo l m : Nat)) ∧ ∃ q, w' = w.drewN q := by
  have HC : Hid (∀ q i, i < n → Calls Try.prog 63 (#[.int .i64 (i : Nat)] ++ #[.pointer (some ⟨bo, 0, none⟩), .pointer (some ⟨bn, 0, none⟩)]) (w.drewN q) fun e w' => e = .returned (.bool (decide (upTo l m ≤ i))) ∧ ∃ k, w' = (w.drewN q).drewN k) := by
    intro q i hi
    obtain ⟨b, off, rfl, hc⟩ := hr.at (by omega)
    have := later_any bo bn b off n cap m (nth l i).pos i (w.drewN q) hi ho hm (hc i hi).1
    have hu := upTo_nth hri m i (by rw [hr.1]; exact hi)
    rw [show decide (m < (nth l i).pos) = decide (upTo l m ≤ i) by
      by_cases h : upTo l m ≤ i
      · simp [h]; omega
      · simp [h]; omega] at this
    exact this
  have HU : Hid (upTo l m ≤ n) := by have := upTo_le l m; rw [hr.1] at this; exact this
  generalize upTo l m = c at *
  clear hr hri ho hm
  go_enter Try.func62, Try.ntmps62
  go_wp2
  go_loopw [5, 6] (fun s5 s6 wr => ∃ lo hi q : Nat, s5 = .int .i64 (lo : Nat) ∧ s6 = .int .i64 (hi : Nat) ∧ lo ≤ hi ∧ hi ≤ n ∧ wr = w.drewN q ∧ Hid (lo ≤ c ∧ c ≤ hi)) (fun s5 s6 _ => (intOf s6).toNat - (intOf s5).toNat)
  case atStart => exact ⟨0, n, 0, rfl, rfl, Nat.zero_le _, Nat.le_refl _, rfl, ⟨Nat.zero_le _, HU.out⟩⟩
  case round =>
    obtain ⟨lo, hi, q, rfl, rfl, hlh, hin, rfl, HI⟩ := hrel
    by_cases hlt : lo < hi
    · have hc := HC.out q ((lo + hi) / 2) (by omega)
      rw [show (((lo + hi) / 2 : Nat) : Int) = ((lo : Int) + (hi : Int)) / 2 by omega] at hc
      by_cases hp : c ≤ (lo + hi) / 2
      · rw [decide_eq_true hp] at hc
        have HP : Hid (c ≤ (lo + hi) / 2) := hp
        clear hp
        go_wp2_with fail
        refine hc.mono ?_
        rintro e w' ⟨rfl, nq, rfl⟩
        go_wp2
        go_roundw
        case rel => exact ⟨lo, (lo + hi) / 2, q + nq, rfl, by rw [show ((lo : Int) + (hi : Int)) / 2 = (((lo + hi) / 2 : Nat) : Int) by omega], by omega, by omega, rfl, ⟨HI.out.1, HP.out⟩⟩
        case measure => simp [intOf]; omega
      · rw [decide_eq_false hp] at hc
        have HP : Hid (¬ c ≤ (lo + hi) / 2) := hp
        clear hp
        go_wp2_with fail
        refine hc.mono ?_
        rintro e w' ⟨rfl, nq, rfl⟩
        go_wp2
        go_roundw
        case rel => exact ⟨(lo + hi) / 2 + 1, hi, q + nq, by rw [show ((lo : Int) + (hi : Int)) / 2 + 1 = (((lo + hi) / 2 + 1 : Nat) : Int) by omega], rfl, by omega, hin, rfl, ⟨by have := HP.out; omega, HI.out.2⟩⟩
        case measure => simp [intOf]; omega
    · obtain rfl : hi = lo := by omega
      have HE : Hid (c = hi) := by have := HI.out; show c = hi; omega
      go_wp2
      go_ret
      refine ⟨?_, q, rfl⟩
      rw [HE.out]
      rfl

theorem upTo_any (a : Option Addr) (n cap : Nat) (m : Int) (l : List Ver) (w : World) (hr : VRow w a n l) (hri : Rises l) (hlen : n ≤ 1000000000) :
    Calls Try.prog 45 #[.agg #[.slice a n cap], .int .i64 m] w fun e w' => e = .returned (.int .i64 (upTo l m : Nat)) ∧ Below w.heap.size w w' := by
  have hB : Below w.heap.size w ((w.alloc (.cells #[.slice a n cap] 25)).alloc (.cells #[.int .i64 m] 3)) := ((Below.refl _ w).alloc (Nat.le_refl _) _).alloc (by simp) _
  have c0 : ((w.alloc (.cells #[.slice a n cap] 25)).alloc (.cells #[.int .i64 m] 3)).cell? ⟨w.heap.size, 0, none⟩ = some (.slice a n cap) := cell_of_heap ((heap_alloc_old _ _ (by simp)).trans (heap_alloc_new w _)) rfl
  have c1 : ((w.alloc (.cells #[.slice a n cap] 25)).alloc (.cells #[.int .i64 m] 3)).cell? ⟨w.heap.size + 1, 0, none⟩ = some (.int .i64 m) := cell_of_heap (by have := heap_alloc_new (w.alloc (.cells #[.slice a n cap] 25)) (.cells #[.int .i64 m] 3); rwa [World.size_alloc] at this) rfl
  have hs := search_any w.heap.size (w.heap.size + 1) n cap a m l _ (hr.later hB) hri hlen c0 c1
  have HB : Hid (Below w.heap.size w ((w.alloc (.cells #[.slice a n cap] 25)).alloc (.cells #[.int .i64 m] 3))) := hB
  clear c0 c1 hB hr hri
  go_enter Try.func45, Try.ntmps45
  go_wp2_with fail
  refine hs.mono ?_
  rintro e w' ⟨rfl, q, rfl⟩
  go_wp2
  go_ret
  exact ⟨rfl, below_drewN HB.out _⟩

theorem last_any (a : Option Addr) (n cap : Nat) (l : List Ver) (w : World) (hr : VRow w a n l) :
    Calls Try.prog 43 #[.agg #[.slice a n cap]] w fun e w' => e = .returned (lastL l).value ∧ Below w.heap.size w w' := by
  have hlen : n ≤ 9223372036854775807 := by have := hr.2.2.1; unfold maxLen at this; omega
  rcases Nat.eq_zero_or_pos n with rfl | hn
  · rw [lastL, nth_ge l _ (by have := hr.1; omega)]
    clear hr
    go_enter Try.func43, Try.ntmps43
    go_wp2
    go_returns
    refine ⟨rfl, ?_⟩
    go_grown
  · obtain ⟨b, off, rfl, hc⟩ := hr.at hn
    obtain ⟨k, rfl⟩ : ∃ k, n = k + 1 := ⟨n - 1, by omega⟩
    clear hc
    obtain ⟨b', off', e, hc⟩ := (hr.later (show Below w.heap.size w ((w.alloc (.cells #[.slice (some ⟨b, off, none⟩) (k + 1) cap] 25)).alloc (.cells #[.int .i64 0, .int .u64 0, .string ⟨#[]⟩, .bool false] 36)) from ((Below.refl _ w).alloc (Nat.le_refl _) _).alloc (by simp) _)).at hn
    simp only [Option.some.injEq, Addr.mk.injEq] at e
    obtain ⟨rfl, rfl, _⟩ := e
    obtain ⟨c0, c1, c2, c3⟩ := hc k (by omega)
    rw [lastL, hr.1, Nat.add_sub_cancel]
    clear hc hr
    have h0 : ¬ (k + 1 = 0) := by omega
    have h1 : ((k : Int) + 1 == 0) = false := by simp; omega
    generalize nth l k = v at *
    go_enter Try.func43, Try.ntmps43
    go_wp2
    go_returns
    refine ⟨rfl, ?_⟩
    go_grown
end Go.Proofs.Ytmahigfamgbhfaa
