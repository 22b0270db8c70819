/- A ballot as bytes: what package ballot's Put and Read do: contracts. -/
import Derived.Test.YtbikepmnjgcgkaaBlC
import Derived.Test.YtbikepmnjgcgkaaOctI
namespace Go.Proofs.Ytbikepmnjgcgkaa
open Go.RowKit

/-- a node as a number -/
def code (n : Int) : Nat := if 0 ≤ n ∧ n < 5 then n.toNat else 5
theorem code_le (n : Int) : code n ≤ 5 := by unfold code; split <;> omega
/-- a ballot's bytes -/
def enc (r : Nat) (n : Int) : List Nat := Oct.put r ++ Oct.put (code n)
/-- the ballot that stands next, and what is left -/
def dec (st : Option (List Nat)) : (Nat × Int) × Option (List Nat) :=
  match (Oct.atMostI 5 (Oct.atMost 18446744073709551615 st).2).2 with
  | none => ((0, 0), none)
  | some l => (((Oct.atMost 18446744073709551615 st).1, if (Oct.atMostI 5 (Oct.atMost 18446744073709551615 st).2).1 < 5 then ((Oct.atMostI 5 (Oct.atMost 18446744073709551615 st).2).1 : Int) else -1), some l)
theorem put_small (c : Nat) (h : c < 128) : Oct.put c = [c] := Oct.putF_small 9 c h
theorem dec_enc (r : Nat) (n : Int) (hr : r < 18446744073709551616) (l : List Nat) : dec (some (enc r n ++ l)) = ((r, if 0 ≤ n ∧ n < 5 then n else -1), some l) := by
  have h1 : Oct.atMost 18446744073709551615 (some (enc r n ++ l)) = (r, some (Oct.put (code n) ++ l)) := by
    unfold enc
    rw [List.append_assoc, Oct.atMost_put _ _ _ hr (by omega)]
  have hc := code_le n
  have h2 : Oct.atMostI 5 (some (Oct.put (code n) ++ l)) = (code n, some l) := by
    unfold Oct.atMostI
    rw [if_neg (by omega), Oct.atMost_put _ _ _ (by omega) (by simp; omega)]
  unfold dec
  rw [h1, h2]
  simp only
  congr 2
  unfold code
  split
  · rename_i h; rw [if_pos (by omega)]; simp; omega
  · simp

theorem bput_any (a : Option Addr) (n cap r : Nat) (k : Int) (bs : List Nat) (w : World) (hr : Row w a n bs) (hz : a = none → cap = 0) (hn : n ≤ 1000) (h64 : r < 18446744073709551616) :
    Calls Try.prog 18 #[.slice a n cap, bal r k] w fun e w' => ∃ g N, e = .returned (.slice (some ⟨g, 0, none⟩) N N) ∧ Row w' (some ⟨g, 0, none⟩) N (bs ++ enc r k) ∧ N ≤ n + 20 ∧ Below w.heap.size w w' := by
  have hb0 : Below w.heap.size w (w.alloc (.cells #[.int .u64 (r : Nat), .int .i64 k] 25)) := (Below.refl _ _).alloc (Nat.le_refl _) _
  have hr0 := hr.later hb0
  unfold enc
  by_cases hk : 0 ≤ k ∧ k < 5
  · obtain ⟨c, rfl⟩ : ∃ c : Nat, k = c := ⟨k.toNat, by omega⟩
    rw [show code c = c by unfold code; rw [if_pos hk]; omega]
    have hc5 : c < 5 := by omega
    go_enter Try.func18, Try.ntmps18
    go_wp2_with fail
    refine (isMaster_any _ _).mono ?_
    rintro e w1 ⟨rfl, hw⟩
    subst w1
    rw [decide_eq_true hk]
    clear hk
    go_wp2_with fail
    refine (put_any _ _ _ r _ _ hr0 hz (by omega) h64).mono ?_
    rintro e w2 ⟨g2, N2, rfl, hr2, hN2, _, hb2⟩
    go_wp2_with fail
    refine (put_any _ _ _ c _ _ hr2 (by simp) (by omega) (by omega)).mono ?_
    rintro e w3 ⟨g3, N3, rfl, hr3, hN3, _, hb3⟩
    go_wp2
    go_ret
    rw [List.append_assoc] at hr3
    have hb4 := hb0.trans (hb2.mono hb0.size)
    exact ⟨_, _, rfl, hr3, by omega, hb4.trans (hb3.mono hb4.size)⟩
  · rw [show code k = 5 by unfold code; rw [if_neg hk]]
    go_enter Try.func18, Try.ntmps18
    go_wp2_with fail
    refine (isMaster_any _ _).mono ?_
    rintro e w1 ⟨rfl, hw⟩
    subst w1
    rw [decide_eq_false hk]
    clear hk
    go_wp2_with fail
    refine (put_any _ _ _ r _ _ hr0 hz (by omega) h64).mono ?_
    rintro e w2 ⟨g2, N2, rfl, hr2, hN2, _, hb2⟩
    go_wp2_with fail
    refine (put_any _ _ _ 5 _ _ hr2 (by simp) (by omega) (by omega)).mono ?_
    rintro e w3 ⟨g3, N3, rfl, hr3, hN3, _, hb3⟩
    go_wp2
    go_ret
    rw [List.append_assoc] at hr3
    have hb4 := hb0.trans (hb2.mono hb0.size)
    exact ⟨_, _, rfl, hr3, by omega, hb4.trans (hb3.mono hb4.size)⟩

theorem Only.new {g c j : Nat} {w wa : World} (h : Only g w wa) (hc : w.heap.size ≤ c) (v : Value) : Only g w (wa.setCell ⟨c, j, none⟩ v) :=
  ⟨h.os, h.tape, h.output, by simpa using h.size, fun k hk hne => by rw [heap_setCell_other _ _ _ _ (by simp; omega)]; exact h.block k hk hne⟩

theorem bread_any (g : Nat) (st : Option (List Nat)) (w : World) (h : Rd w g st) :
    Calls Try.prog 20 #[.pointer (some ⟨g, 0, none⟩)] w fun e w' => e = .returned (bal (dec st).1.1 (dec st).1.2) ∧ Rd w' g (dec st).2 ∧ Only g w w' := by
  have hg := h.lt
  have hb0 : Below w.heap.size w (w.alloc (.cells #[.int .u64 0, .int .i64 0] 25)) := (Below.refl _ _).alloc (Nat.le_refl _) _
  have h0 := h.later hb0
  have hz0 : (w.alloc (.cells #[.int .u64 0, .int .i64 0] 25)).heap[w.heap.size]? = some (.cells #[.int .u64 0, .int .i64 0] 25 (0, 0)) := by show (w.heap.push _)[w.heap.size]? = _; simp
  have hzs : w.heap.size < (w.alloc (.cells #[.int .u64 0, .int .i64 0] 25)).heap.size := by simp
  have hmo := h.bytes
  go_enter Try.func20, Try.ntmps20
  go_wp2_with fail
  refine (n_any g st _ h0).mono ?_
  rintro e w2 ⟨rfl, hr2, ho2⟩
  have hd : dec st = match (Oct.atMostI 5 (Oct.atMost 18446744073709551615 st).2).2 with | none => ((0, 0), none) | some l => (((Oct.atMost 18446744073709551615 st).1, if (Oct.atMostI 5 (Oct.atMost 18446744073709551615 st).2).1 < 5 then ((Oct.atMostI 5 (Oct.atMost 18446744073709551615 st).2).1 : Int) else -1), some l) := rfl
  have hl1 := (Oct.atMost_lt 18446744073709551615 st hmo).2
  generalize Oct.atMost 18446744073709551615 st = p at *
  obtain ⟨p1, p2⟩ := p
  simp only at hr2 hd hl1
  go_wp2_with fail
  refine (int_any g 5 p2 _ hr2 (by omega)).mono ?_
  rintro e w3 ⟨rfl, hr3, ho3⟩
  have hl2 := (atMostI_facts 5 p2 hr2.bytes (by omega)).1
  generalize Oct.atMostI 5 p2 = q at *
  obtain ⟨q1, q2⟩ := q
  simp only at hr3 hd hl2
  have hz3 : w3.heap[w.heap.size]? = some (.cells #[.int .u64 0, .int .i64 0] 25 (0, 0)) := by
    rw [ho3.block _ (by have := ho2.size; omega) (by simp; omega), ho2.block _ hzs (by simp; omega)]
    exact hz0
  have hon : Only g w w3 := (Below.only hb0).trans (ho2.trans ho3)
  have x0 : w3.cell? ⟨w.heap.size, 0, none⟩ = some (.int .u64 0) := cell_of_heap hz3 rfl
  have x1 : w3.cell? ⟨w.heap.size, 1, none⟩ = some (.int .i64 0) := cell_of_heap hz3 rfl
  have y0 : w3.frozen? ⟨w.heap.size, 0, none⟩ = false := frozen_of_row w3 _ _ _ _ hz3
  have y1 : w3.frozen? ⟨w.heap.size, 1, none⟩ = false := frozen_of_row w3 _ _ _ _ hz3
  clear hr2 ho2 ho3 h0 hb0 hz0 hzs
  have fin : ∀ (u v : Value), Rd w3 g q2 → Rd ((w3.setCell ⟨w.heap.size, 0, none⟩ u).setCell ⟨w.heap.size, 1, none⟩ v) g q2 ∧ Only g w ((w3.setCell ⟨w.heap.size, 0, none⟩ u).setCell ⟨w.heap.size, 1, none⟩ v) := fun u v hr =>
    ⟨(hr.only (Only.set _ _ _ _) hg).only (Only.set _ _ _ _) hg, (hon.new (Nat.le_refl _) _).new (Nat.le_refl _) _⟩
  have s0 : ∀ u, (w3.setCell ⟨w.heap.size, 0, none⟩ u).cell? ⟨w.heap.size, 0, none⟩ = some u := fun u => cell_of_heap (heap_setCell_same w3 _ 0 _ 25 u hz3) rfl
  have s1 : ∀ u v, ((w3.setCell ⟨w.heap.size, 0, none⟩ u).setCell ⟨w.heap.size, 1, none⟩ v).cell? ⟨w.heap.size, 1, none⟩ = some v := fun u v => cell_of_heap (heap_setCell_same _ _ 1 _ 25 v (heap_setCell_same w3 _ 0 _ 25 u hz3)) rfl
  have FIN : Hid (∀ (u v : Value), Rd w3 g q2 → _) := fin
  clear fin
  go_wp2_with fail
  refine (bad_any g q2 _ hr3).mono ?_
  rintro e w4 ⟨rfl, hw⟩
  subst w4
  cases q2 with
  | none =>
    simp only [Option.isNone_none]
    have HD : Hid (dec st = ((0, 0), none)) := hd
    clear hd
    go_wp2
    refine bodyPost_ret (v := bal 0 0) (by simp [results, Try.results20, go_sem, s0, s1]) rfl ?_
    rw [HD.out]
    exact ⟨rfl, FIN.out _ _ hr3⟩
  | some l =>
    simp only [Option.isNone_some]
    have HD : Hid (dec st = ((p1, if q1 < 5 then (q1 : Int) else -1), some l)) := hd
    clear hd
    go_wp2_with fail
    refine (isMaster_any _ _).mono ?_
    rintro e w5 ⟨rfl, hw⟩
    subst w5
    by_cases h5 : q1 < 5
    · rw [decide_eq_true (by omega)]
      go_wp2
      refine bodyPost_ret (v := bal p1 q1) (by simp [results, Try.results20, go_sem, s0, s1]) rfl ?_
      rw [HD.out, if_pos h5]
      exact ⟨rfl, FIN.out _ _ hr3⟩
    · rw [decide_eq_false (by omega)]
      go_wp2
      refine bodyPost_ret (v := bal p1 (-1)) (by simp [results, Try.results20, go_sem, s0, s1]) rfl ?_
      rw [HD.out, if_neg h5]
      exact ⟨rfl, FIN.out _ _ hr3⟩
end Go.Proofs.Ytbikepmnjgcgkaa
