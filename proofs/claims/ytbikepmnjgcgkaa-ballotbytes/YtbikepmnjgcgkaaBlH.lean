/- The document's own ballots as bytes: contracts. -/
import Derived.Test.YtbikepmnjgcgkaaBlG
import Derived.Deep.Cut
namespace Go.Proofs.Ytbikepmnjgcgkaa
open Go.RowKit

theorem ref_bput_any (r : Nat) (k : Int) (w : World) (h64 : r < 18446744073709551616) :
    Calls Try.prog 21 #[bal r k] w fun e w' => ∃ a N cap, e = .returned (.slice a N cap) ∧ Row w' a N (enc r k) ∧ Below w.heap.size w w' := by
  have hb0 : Below w.heap.size w (w.alloc (.cells #[.int .u64 (r : Nat), .int .i64 k] 24)) := (Below.refl _ _).alloc (Nat.le_refl _) _
  have hlen := (Oct.putF_len 9 r).2
  have fin : ∀ (c : Nat) (w2 w3 : World) (g N cap : Nat) (v3 : Value), c = code k → Own w2 (w.alloc (.cells #[.int .u64 (r : Nat), .int .i64 k] 24)).heap.size (.slice (some ⟨g, 0, none⟩) N cap) (Oct.putF 9 r) → Below (w.alloc (.cells #[.int .u64 (r : Nat), .int .i64 k] 24)).heap.size (w.alloc (.cells #[.int .u64 (r : Nat), .int .i64 k] 24)) w2 → Own w3 (w.alloc (.cells #[.int .u64 (r : Nat), .int .i64 k] 24)).heap.size v3 (Oct.putF 9 r ++ [c]) → Below (w.alloc (.cells #[.int .u64 (r : Nat), .int .i64 k] 24)).heap.size (w2.alloc (.cells #[.int .u8 (c : Nat)] 5)) w3 → ∃ a N cap, Ending.returned v3 = .returned (.slice a N cap) ∧ Row w3 a N (enc r k) ∧ Below w.heap.size w w3 := by
    intro c w2 w3 g N cap v3 hc ho2 hb2 ho3 hb3
    obtain ⟨a, n, cp, rfl, hrow, -⟩ := ho3.slice
    refine ⟨a, n, cp, rfl, ?_, ?_⟩
    · unfold enc
      rw [put_small (code k) (by have := code_le k; omega), ← hc]
      exact hrow
    · have h1 := hb0.trans (hb2.mono hb0.size)
      have h2 := h1.alloc h1.size (.cells #[.int .u8 (c : Nat)] 5)
      exact h2.trans (hb3.mono hb0.size)
  have FIN : Hid (∀ (c : Nat) (w2 w3 : World) (g N cap : Nat) (v3 : Value), _) := fin
  clear fin
  rcases (show (0 ≤ k ∧ k < 5) ∨ k < 0 ∨ (0 ≤ k ∧ 4 < k) by omega) with hk | hk | ⟨hk, hk2⟩
  · obtain ⟨c, rfl⟩ : ∃ c : Nat, k = c := ⟨k.toNat, by omega⟩
    have hcd : c = code c := by unfold code; rw [if_pos hk]; omega
    have hc5 : c < 5 := by omega
    have HCD : Hid (c = code c) := hcd
    clear hcd hk
    go_enter Try.func21, Try.ntmps21
    go_wp2_with fail
    refine (ref_put_any 9 r _ (by omega) (by omega)).mono ?_
    rintro e w2 ⟨g, N, cap, rfl, ho, hb⟩
    have hrow := Row.one w2 c (by omega)
    have hsz := hb.size
    go_wp2_with (at_builtin; refine wp_append_row rfl _ _ rfl (w.alloc (.cells #[.int .u64 (r : Nat), .int .i64 (c : Int)] 24)).heap.size _ _ rfl (ho.alloc _) _ _ _ _ rfl hrow (by simp) (by omega) (by simp at hsz ⊢; omega) ?_; intro v3 w3 ho3 hb3)
    go_ret
    exact FIN.out c w2 w3 g N cap v3 HCD.out ho hb ho3 hb3
  · have hcd : 5 = code k := by unfold code; rw [if_neg (by omega)]
    have HCD : Hid (5 = code k) := hcd
    clear hcd
    go_enter Try.func21, Try.ntmps21
    go_wp2_with fail
    refine (ref_put_any 9 r _ (by omega) (by omega)).mono ?_
    rintro e w2 ⟨g, N, cap, rfl, ho, hb⟩
    have hrow := Row.one w2 5 (by omega)
    have hsz := hb.size
    go_wp2_with (at_builtin; refine wp_append_row rfl _ _ rfl (w.alloc (.cells #[.int .u64 (r : Nat), .int .i64 k] 24)).heap.size _ _ rfl (ho.alloc _) _ _ _ _ rfl hrow (by simp) (by omega) (by simp at hsz ⊢; omega) ?_; intro v3 w3 ho3 hb3)
    go_ret
    exact FIN.out 5 w2 w3 g N cap v3 HCD.out ho hb ho3 hb3
  · have hcd : 5 = code k := by unfold code; rw [if_neg (by omega)]
    have HCD : Hid (5 = code k) := hcd
    clear hcd
    go_enter Try.func21, Try.ntmps21
    go_wp2_with fail
    refine (ref_put_any 9 r _ (by omega) (by omega)).mono ?_
    rintro e w2 ⟨g, N, cap, rfl, ho, hb⟩
    have hrow := Row.one w2 5 (by omega)
    have hsz := hb.size
    go_wp2_with (at_builtin; refine wp_append_row rfl _ _ rfl (w.alloc (.cells #[.int .u64 (r : Nat), .int .i64 k] 24)).heap.size _ _ rfl (ho.alloc _) _ _ _ _ rfl hrow (by simp) (by omega) (by simp at hsz ⊢; omega) ?_; intro v3 w3 ho3 hb3)
    go_ret
    exact FIN.out 5 w2 w3 g N cap v3 HCD.out ho hb ho3 hb3

theorem ref_bread_any (g : Nat) (a : Option Addr) (n cap : Nat) (bs : List Nat) (st : Option (List Nat)) (w : World) (h : Rf w g a n cap bs st) (hr : Row w a n bs) (hag : ∀ x, a = some x → 0 < n → x.block ≠ g) (hc : n ≤ cap) (hm : cap ≤ maxLen) (hn : n ≤ 1000) :
    Calls Try.prog 23 #[.pointer (some ⟨g, 0, none⟩)] w fun e w' => e = .returned (bal (dec st).1.1 (dec st).1.2) ∧ Rf w' g a n cap bs (dec st).2 ∧ Only g w w' := by
  have hg : g < w.heap.size := by obtain ⟨p, _, hh, _⟩ := h; exact (Array.getElem?_eq_some_iff.1 hh).1
  have hb0 : Below w.heap.size w (w.alloc (.cells #[.int .u64 0, .int .i64 0] 24)) := (Below.refl _ _).alloc (Nat.le_refl _) _
  have h0 := h.later hb0
  have hr0 := hr.later hb0
  have hmo := h.bytes hr
  have hz0 : (w.alloc (.cells #[.int .u64 0, .int .i64 0] 24)).heap[w.heap.size]? = some (.cells #[.int .u64 0, .int .i64 0] 24 (0, 0)) := by show (w.heap.push _)[w.heap.size]? = _; simp
  have hzs : w.heap.size < (w.alloc (.cells #[.int .u64 0, .int .i64 0] 24)).heap.size := by simp
  go_enter Try.func23, Try.ntmps23
  go_wp2_with fail
  refine (refn_any g a n cap bs st _ h0 hr0 hc hm hn).mono ?_
  rintro e w2 ⟨rfl, hf2, ho2⟩
  have hr2 := hr0.only ho2 hag
  have hd : dec st = match (Oct.atMostI 5 (Oct.atMost 18446744073709551615 st).2).2 with | none => ((0, 0), none) | some l => (((Oct.atMost 18446744073709551615 st).1, if (Oct.atMostI 5 (Oct.atMost 18446744073709551615 st).2).1 < 5 then ((Oct.atMostI 5 (Oct.atMost 18446744073709551615 st).2).1 : Int) else -1), some l) := rfl
  have hl1 := (Oct.atMost_lt 18446744073709551615 st hmo).2
  generalize Oct.atMost 18446744073709551615 st = p at *
  obtain ⟨p1, p2⟩ := p
  simp only at hf2 hd hl1
  have hb3 : Below w2.heap.size w2 (w2.alloc (.cells #[.int .u64 (p1 : Nat), .int .i64 0] 24)) := (Below.refl _ _).alloc (Nat.le_refl _) _
  have hf3 := hf2.later hb3
  have hr3 := hr2.later hb3
  have hx0 : (w2.alloc (.cells #[.int .u64 (p1 : Nat), .int .i64 0] 24)).heap[w2.heap.size]? = some (.cells #[.int .u64 (p1 : Nat), .int .i64 0] 24 (0, 0)) := by show (w2.heap.push _)[w2.heap.size]? = _; simp
  have hxs : w2.heap.size < (w2.alloc (.cells #[.int .u64 (p1 : Nat), .int .i64 0] 24)).heap.size := by simp
  have hcx : w.heap.size < w2.heap.size := by have := ho2.size; omega
  have hz2 : w2.heap[w.heap.size]? = some (.cells #[.int .u64 0, .int .i64 0] 24 (0, 0)) := by rw [ho2.block _ hzs (by simp; omega)]; exact hz0
  go_wp2_with fail
  refine (refint_any g a n cap 5 bs p2 _ hf3 hr3 hc hm hn (by omega)).mono ?_
  rintro e w4 ⟨rfl, hf4, ho4⟩
  have hl2 := (atMostI_facts 5 p2 (hf3.bytes hr3) (by omega)).1
  have hq5 : (Oct.atMostI 5 p2).1 ≤ 5 := by
    unfold Oct.atMostI
    rw [if_neg (by omega)]
    exact (Oct.atMost_lt 5 p2 (hf3.bytes hr3)).1
  generalize Oct.atMostI 5 p2 = q at *
  obtain ⟨q1, q2⟩ := q
  simp only at hf4 hd hl2 hq5
  have hz4 : w4.heap[w.heap.size]? = some (.cells #[.int .u64 0, .int .i64 0] 24 (0, 0)) := by
    rw [ho4.block _ (by omega) (by simp; omega), hb3.block _ hcx]
    exact hz2
  have hx4 : w4.heap[w2.heap.size]? = some (.cells #[.int .u64 (p1 : Nat), .int .i64 0] 24 (0, 0)) := by
    rw [ho4.block _ hxs (by simp; omega)]
    exact hx0
  have hon : Only g w w4 := (Below.only hb0).trans (ho2.trans ((Below.only hb3).trans ho4))
  obtain ⟨ps, hps, hh4, hst4⟩ := hf4
  generalize w2.heap.size = xb at *
  clear hr2 hf2 ho2 hf3 hr3 hx0 hxs hz2 ho4 hb3 h0 hr0 hb0 hz0 hzs
  have y1 : w4.cell? ⟨xb, 1, none⟩ = some (.int .i64 0) := cell_of_heap hx4 rfl
  have y2 : w4.frozen? ⟨xb, 1, none⟩ = false := frozen_of_row w4 _ _ _ _ hx4
  have hgx : g ≠ xb := by omega
  have hgc : g ≠ w.heap.size := by omega
  have hxc : xb ≠ w.heap.size := by omega
  have fin : ∀ V, V.heap[g]? = some (.cells #[.slice a n cap, .int .i64 ps, .bool q2.isNone] 45 (0, 0)) → Only g w V → ∀ u v, Rf ((V.setCell ⟨w.heap.size, 0, none⟩ u).setCell ⟨w.heap.size, 1, none⟩ v) g a n cap bs q2 ∧ Only g w ((V.setCell ⟨w.heap.size, 0, none⟩ u).setCell ⟨w.heap.size, 1, none⟩ v) := fun V hV hoV u v =>
    ⟨⟨ps, hps, by rw [heap_setCell_other _ _ _ _ (by simpa using hgc), heap_setCell_other _ _ _ _ (by simpa using hgc)]; exact hV, hst4⟩, (hoV.new (Nat.le_refl _) _).new (Nat.le_refl _) _⟩
  have FIN : Hid (∀ V : World, _) := fin
  clear fin
  have HH4 : Hid (w4.heap[g]? = some (.cells #[.slice a n cap, .int .i64 ps, .bool q2.isNone] 45 (0, 0))) := hh4
  have HX4 : Hid (w4.heap[xb]? = some (.cells #[.int .u64 (p1 : Nat), .int .i64 0] 24 (0, 0))) := hx4
  have HZ4 : Hid (w4.heap[w.heap.size]? = some (.cells #[.int .u64 0, .int .i64 0] 24 (0, 0))) := hz4
  have HON : Hid (Only g w w4) := hon
  clear hh4 hx4 hz4 hon
  go_upto_region 3 with fail
  obtain ⟨V, hV⟩ : ∃ V, V = w4.setCell ⟨xb, 1, none⟩ (.int .i64 (q1 : Nat)) := ⟨_, rfl⟩
  rw [← hV]
  have g3 : V.heap[g]? = some (.cells #[.slice a n cap, .int .i64 ps, .bool q2.isNone] 45 (0, 0)) := by rw [hV, heap_setCell_other _ _ _ _ (by simpa using hgx)]; exact HH4.out
  have x3 : V.heap[xb]? = some (.cells #[.int .u64 (p1 : Nat), .int .i64 (q1 : Nat)] 24 (0, 0)) := by rw [hV]; exact heap_setCell_same _ _ 1 _ 24 _ HX4.out
  have z3 : V.heap[w.heap.size]? = some (.cells #[.int .u64 0, .int .i64 0] 24 (0, 0)) := by rw [hV, heap_setCell_other _ _ _ _ (by simpa using hxc.symm)]; exact HZ4.out
  have o3 : Only g w V := by rw [hV]; exact HON.out.new (by omega) _
  clear hV y1 y2 HH4 HX4 HZ4 HON
  have c2 : V.cell? ⟨g, 2, none⟩ = some (.bool q2.isNone) := cell_of_heap g3 rfl
  have k0 : V.cell? ⟨w.heap.size, 0, none⟩ = some (.int .u64 0) := cell_of_heap z3 rfl
  have k1 : V.cell? ⟨w.heap.size, 1, none⟩ = some (.int .i64 0) := cell_of_heap z3 rfl
  have f0 : V.frozen? ⟨w.heap.size, 0, none⟩ = false := frozen_of_row V _ _ _ _ z3
  have f1 : V.frozen? ⟨w.heap.size, 1, none⟩ = false := frozen_of_row V _ _ _ _ z3
  have l0 : V.cell? ⟨xb, 0, none⟩ = some (.int .u64 (p1 : Nat)) := cell_of_heap x3 rfl
  have l1 : V.cell? ⟨xb, 1, none⟩ = some (.int .i64 (q1 : Nat)) := cell_of_heap x3 rfl
  have e1 : V.frozen? ⟨xb, 1, none⟩ = false := frozen_of_row V _ _ _ _ x3
  have G3 : Hid (V.heap[g]? = some (.cells #[.slice a n cap, .int .i64 ps, .bool q2.isNone] 45 (0, 0))) := g3
  have X3 : Hid (V.heap[xb]? = some (.cells #[.int .u64 (p1 : Nat), .int .i64 (q1 : Nat)] 24 (0, 0))) := x3
  have Z3 : Hid (V.heap[w.heap.size]? = some (.cells #[.int .u64 0, .int .i64 0] 24 (0, 0))) := z3
  have O3 : Hid (Only g w V) := o3
  clear g3 x3 z3 o3
  cases q2 with
  | none =>
    have HD : Hid (dec st = ((0, 0), none)) := hd
    clear hd
    have s0 : ∀ u, (V.setCell ⟨w.heap.size, 0, none⟩ u).cell? ⟨w.heap.size, 0, none⟩ = some u := fun u => cell_of_heap (heap_setCell_same V _ 0 _ 24 u Z3.out) rfl
    have s1 : ∀ u v, ((V.setCell ⟨w.heap.size, 0, none⟩ u).setCell ⟨w.heap.size, 1, none⟩ v).cell? ⟨w.heap.size, 1, none⟩ = some v := fun u v => cell_of_heap (heap_setCell_same _ _ 1 _ 24 v (heap_setCell_same V _ 0 _ 24 u Z3.out)) rfl
    simp only [Option.isNone_none] at c2
    go_wp2
    refine bodyPost_ret (v := bal 0 0) (by simp [results, Try.results23, go_sem, s0, s1]) rfl ?_
    rw [HD.out]
    exact ⟨rfl, FIN.out V G3.out O3.out _ _⟩
  | some l =>
    have HD : Hid (dec st = ((p1, if q1 < 5 then (q1 : Int) else -1), some l)) := hd
    clear hd
    simp only [Option.isNone_some] at c2
    by_cases h5 : q1 = 5
    · subst h5
      go_upto_region 7 with fail
      obtain ⟨U, hU⟩ : ∃ U, U = V.setCell ⟨xb, 1, none⟩ (.int .i64 (-1)) := ⟨_, rfl⟩
      rw [← hU]
      have g7 : U.heap[g]? = some (.cells #[.slice a n cap, .int .i64 ps, .bool false] 45 (0, 0)) := by rw [hU, heap_setCell_other _ _ _ _ (by simpa using hgx)]; exact G3.out
      have x7 : U.heap[xb]? = some (.cells #[.int .u64 (p1 : Nat), .int .i64 (-1)] 24 (0, 0)) := by rw [hU]; exact heap_setCell_same _ _ 1 _ 24 _ X3.out
      have z7 : U.heap[w.heap.size]? = some (.cells #[.int .u64 0, .int .i64 0] 24 (0, 0)) := by rw [hU, heap_setCell_other _ _ _ _ (by simpa using hxc.symm)]; exact Z3.out
      have o7 : Only g w U := by rw [hU]; exact O3.out.new (by omega) _
      clear hU k0 k1 f0 f1 l0 l1 e1 G3 X3 Z3 O3
      have k0 : U.cell? ⟨w.heap.size, 0, none⟩ = some (.int .u64 0) := cell_of_heap z7 rfl
      have k1 : U.cell? ⟨w.heap.size, 1, none⟩ = some (.int .i64 0) := cell_of_heap z7 rfl
      have f0 : U.frozen? ⟨w.heap.size, 0, none⟩ = false := frozen_of_row U _ _ _ _ z7
      have f1 : U.frozen? ⟨w.heap.size, 1, none⟩ = false := frozen_of_row U _ _ _ _ z7
      have l0 : U.cell? ⟨xb, 0, none⟩ = some (.int .u64 (p1 : Nat)) := cell_of_heap x7 rfl
      have l1 : U.cell? ⟨xb, 1, none⟩ = some (.int .i64 (-1)) := cell_of_heap x7 rfl
      have s0 : ∀ u, (U.setCell ⟨w.heap.size, 0, none⟩ u).cell? ⟨w.heap.size, 0, none⟩ = some u := fun u => cell_of_heap (heap_setCell_same U _ 0 _ 24 u z7) rfl
      have s1 : ∀ u v, ((U.setCell ⟨w.heap.size, 0, none⟩ u).setCell ⟨w.heap.size, 1, none⟩ v).cell? ⟨w.heap.size, 1, none⟩ = some v := fun u v => cell_of_heap (heap_setCell_same _ _ 1 _ 24 v (heap_setCell_same U _ 0 _ 24 u z7)) rfl
      have HF : Hid (∀ u v, _) := FIN.out U g7 o7
      clear g7 x7 z7 o7 FIN
      go_wp2
      refine bodyPost_ret (v := bal p1 (-1)) (by simp [results, Try.results23, go_sem, s0, s1]) rfl ?_
      rw [HD.out, if_neg (by omega)]
      exact ⟨rfl, HF.out _ _⟩
    · have hb5 : ((q1 : Int) == 5) = false := by simp; omega
      have s0 : ∀ u, (V.setCell ⟨w.heap.size, 0, none⟩ u).cell? ⟨w.heap.size, 0, none⟩ = some u := fun u => cell_of_heap (heap_setCell_same V _ 0 _ 24 u Z3.out) rfl
      have s1 : ∀ u v, ((V.setCell ⟨w.heap.size, 0, none⟩ u).setCell ⟨w.heap.size, 1, none⟩ v).cell? ⟨w.heap.size, 1, none⟩ = some v := fun u v => cell_of_heap (heap_setCell_same _ _ 1 _ 24 v (heap_setCell_same V _ 0 _ 24 u Z3.out)) rfl
      go_wp2
      refine bodyPost_ret (v := bal p1 q1) (by simp [results, Try.results23, go_sem, s0, s1]) rfl ?_
      rw [HD.out, if_pos (by omega)]
      exact ⟨rfl, FIN.out V G3.out O3.out _ _⟩
end Go.Proofs.Ytbikepmnjgcgkaa
