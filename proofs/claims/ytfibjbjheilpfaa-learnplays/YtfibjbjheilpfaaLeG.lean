/- The document's Learn. -/
import Derived.Test.YtfibjbjheilpfaaLeF
namespace Go.Proofs.Ytfibjbjheilpfaa
open Go Go.RowKit
set_option linter.unusedVariables false
set_option linter.unusedSimpArgs false

def learnL (L : List Ro) (s : Int) (v : ByteArray) : List Ro := if learnE (chL L) s v = 0 then L ++ [(s, v)] else L
theorem learnE_zero {F : Ch} {s : Int} {v : ByteArray} (h : learnE F s v = 0) : ∃ i : Nat, s = (i : Nat) ∧ i < 400 ∧ v.size ≤ 64 ∧ hasC F i = false := by
  unfold learnE at h
  by_cases h1 : s < 0 ∨ 400 ≤ s ∨ 64 < v.size
  · rw [if_pos h1] at h; cases h
  · rw [if_neg h1] at h
    refine ⟨s.toNat, by omega, by omega, by omega, ?_⟩
    cases hc : hasC F s.toNat with
    | false => rfl
    | true => rw [hc, if_pos rfl] at h; split at h <;> cases h
theorem chL_learn (L : List Ro) (s : Int) (v : ByteArray) : chL (learnL L s v) = learnC (chL L) s v := by
  unfold learnL learnC
  by_cases h : learnE (chL L) s v = 0
  · rw [if_pos h, if_pos h]
    obtain ⟨i, rfl, h1, h2, h3⟩ := learnE_zero h
    rw [chL_snoc h3]
    simp
  · rw [if_neg h, if_neg h]
theorem okL_learn {L : List Ro} (s : Int) (v : ByteArray) (hk : OkL L) : OkL (learnL L s v) := by
  unfold learnL
  by_cases h : learnE (chL L) s v = 0
  · rw [if_pos h]
    obtain ⟨i, rfl, h1, h2, h3⟩ := learnE_zero h
    intro r hr
    rcases List.mem_append.1 hr with h4 | h4
    · exact hk r h4
    · simp at h4; subst h4; exact ⟨by simp, by simp only; omega⟩
  · rw [if_neg h]; exact hk
theorem lenL_learn (L : List Ro) (s : Int) (v : ByteArray) : (learnL L s v).length ≤ L.length + 1 := by unfold learnL; split <;> simp
theorem lenL_learn0 (L : List Ro) (s : Int) (v : ByteArray) : L.length ≤ (learnL L s v).length := by unfold learnL; split <;> simp

set_option maxRecDepth 100000 in
theorem rlearn_bad (p : Option Addr) (s : Int) (v : ByteArray) (w : World) (hv : v.size ≤ maxLen) (h : s < 0 ∨ 400 ≤ s ∨ 64 < v.size) :
    Calls Try.prog 9 #[.pointer p, .int .i64 s, .string v] w fun e w' => e = .returned (.int .i64 1) ∧ w' = w := by
  unfold maxLen at hv
  by_cases h1 : s < 0
  · go_enter Try.func9, Try.ntmps9
    go_wp2
    go_ret
    exact ⟨rfl, rfl⟩
  · have d1 : decide (s < 0) = false := by simpa using h1
    by_cases h2 : 400 ≤ s
    · have d2 : decide (399 < s) = true := by simp; omega
      go_enter Try.func9, Try.ntmps9
      go_wp2
      go_ret
      exact ⟨rfl, rfl⟩
    · have d2 : decide (399 < s) = false := by simp; omega
      have h3 : 64 < v.size := by omega
      go_enter Try.func9, Try.ntmps9
      go_wp2
      go_ret
      exact ⟨rfl, rfl⟩
set_option maxRecDepth 100000 in
theorem rlearn_had (base g : Nat) (L : List Ro) (s : Int) (u v : ByteArray) (w : World) (h : Rt w base g L) (hlen : L.length ≤ 100000) (hv : v.size ≤ 64) (h0 : 0 ≤ s) (h4 : s < 400) (hc : fL L s = some u) :
    Calls Try.prog 9 #[.pointer (some ⟨g, 0, none⟩), .int .i64 s, .string v] w fun e w' => e = .returned (.int .i64 (if u = v then 7 else 10)) ∧ Below w.heap.size w w' := by
  have h1 := rval_some base g L s u w h hlen hc
  have d1 : decide (s < 0) = false := by simp; omega
  have d2 : decide (399 < s) = false := by simp; omega
  clear h hc h0 h4
  by_cases hu : u = v
  · subst hu
    rw [if_pos rfl]
    have hne : (u.toList != u.toList) = false := by simp
    go_enter Try.func9, Try.ntmps9
    go_wp2_with (first | (go_at_call 15; refine h1.mono ?_; rintro e w' ⟨rfl, hb⟩) | fail)
    go_ret
    exact ⟨rfl, hb⟩
  · rw [if_neg hu]
    have hne : (u.toList == v.toList) = false := by rw [key_eq]; simp [hu]
    go_enter Try.func9, Try.ntmps9
    go_wp2_with (first | (go_at_call 15; refine h1.mono ?_; rintro e w' ⟨rfl, hb⟩) | fail)
    go_ret
    exact ⟨rfl, hb⟩
theorem owns_tag {w : World} {base : Nat} {e : TypeId} {size : Nat} {v : Value} {n : Nat} {xs : List Value} (h : w.ownsRow base e size v n xs) : ∀ k, v.ownBlock = some k → base ≤ k ∧ tagOf w k = some e := by
  intro k hk
  rcases h.2 with ⟨rfl, _⟩ | ⟨g, cap, cur, rfl, hg, hh, _⟩
  · simp [Value.ownBlock] at hk
  · simp [Value.ownBlock] at hk
    subst hk
    exact ⟨hg, tagOf_heap hh⟩
theorem tag_lt {w : World} {k t : Nat} (h : tagOf w k = some t) : k < w.heap.size := by
  by_cases hl : k < w.heap.size
  · exact hl
  · rw [tagOf, Array.getElem?_eq_none (by omega)] at h
    cases h
theorem fr_append {w w2 : World} {o : Obj} {base e size n : Nat} {v : Value} {xs : List Value} (ho : w.ownsRow base e size v n xs) (h : (w.alloc o).grownBy w2 v.ownBlock) : Fr base [e] w w2 := by
  refine (Fr.of ((Below.refl _ _).alloc (Nat.le_refl _) o)).trans (Fr.grown h fun k hk => ⟨(owns_tag ho k hk).1, e, by simp, ?_⟩)
  have h5 := (owns_tag ho k hk).2
  rw [← h5]
  exact tagOf_same (heap_alloc_old _ _ (tag_lt h5))
theorem rows_keep {w w2 : World} {o : Obj} {g base e t size n : Nat} {v u : Value} {xs : List Value} (hg : w.heap[g]? = some (.cells #[u] t (0, 0))) (ho : w.ownsRow base e size v n xs) (he : e ≠ t) (h : (w.alloc o).grownBy w2 v.ownBlock) : w2.heap[g]? = some (.cells #[u] t (0, 0)) := by
  have hl := (Array.getElem?_eq_some_iff.1 hg).1
  rw [h.block g (by simp; omega) (fun e1 => ?_), heap_alloc_old _ _ hl]
  · exact hg
  · have := (owns_tag ho g e1.symm).2
    rw [tagOf_heap hg] at this
    simp at this
    exact he this.symm
theorem setOne {w : World} {g : Nat} {u v : Value} {t : TypeId} (h : w.heap[g]? = some (.cells #[u] t (0, 0))) : (w.setCell ⟨g, 0, none⟩ v).heap[g]? = some (.cells #[v] t (0, 0)) := heap_setCell_same w g 0 _ t v h
set_option maxRecDepth 100000 in
set_option maxHeartbeats 2000000 in
theorem rlearn_new (base g : Nat) (L : List Ro) (s : Int) (v : ByteArray) (w : World) (h : Rt w base g L) (hbase : base ≤ w.heap.size) (hlen : L.length ≤ 100000) (hv : v.size ≤ 64) (h0 : 0 ≤ s) (h4 : s < 400) (hc : fL L s = none) :
    Calls Try.prog 9 #[.pointer (some ⟨g, 0, none⟩), .int .i64 s, .string v] w fun e w' => e = .returned (.int .i64 0) ∧ Rt w' base g (L ++ [(s, v)]) ∧ Fr base [27, 29] w w' := by
  have h1 := rval_none base g L s w h hlen hc
  have d1 : decide (s < 0) = false := by simp; omega
  have d2 : decide (399 < s) = false := by simp; omega
  have HL : Hid (Rt w base g L) := h
  have HBS : Hid (base ≤ w.heap.size) := hbase
  clear h hc h0 h4 hbase
  go_enter Try.func9, Try.ntmps9
  go_wp2_with fail
  refine h1.mono ?_
  clear h1
  rintro e w1 ⟨rfl, hb1⟩
  have HL1 : Hid (Rt w1 base g L) := HL.out.later hb1
  have HF1 : Hid (Fr base [27, 29] w w1) := Fr.of hb1
  have HB1 : Hid (base ≤ w1.heap.size) := Nat.le_trans HBS.out hb1.size
  clear hb1 HL HBS
  obtain ⟨a, cc, hg, hown, c0⟩ := HL1.out.cells
  have HG : Hid (w1.heap[g]? = some (.cells #[.slice a L.length cc] 27 (0, 0))) := hg
  have HO : Hid (w1.ownsRow base 29 2 (.slice a L.length cc) L.length (L.flatMap rcells)) := hown
  have f0 := frozen_of_row w1 g 0 _ 27 hg
  have hgl := (Array.getElem?_eq_some_iff.1 hg).1
  clear hg hown
  go_wp2_with (at_builtin; refine wp_append_els rcells 2 24 22 29 _ Try.underlying22 Try.info_29 rfl (by decide) (fun _ => rfl) (by decide) rfl _ _ rfl base _ _ rfl (owns_later HO.out ((Below.refl _ _).alloc (Nat.le_refl _) _)) _ 1 _ [(s, v)] rfl rfl (news_one rcells (s, v) (heap_alloc_new _ _) rfl) (rcells_one _) (by decide) (by omega) (by have := HB1.out; simp; omega) ?_; intro v2 w2 ho2 hg2 hv2; obtain ⟨x2, n2, k2, rfl⟩ := owns_slice ho2; have hgk := rows_keep HG.out HO.out (by decide) hg2; have c1 := cell_of_heap (i := 0) hgk rfl; have f1 := frozen_of_row w2 g 0 _ 27 hgk; have HR : Hid (Rt (w2.setCell ⟨g, 0, none⟩ (.slice x2 n2 k2)) base g (L ++ [(s, v)])) := ⟨HL1.out.lo, _, setOne hgk, (Fr.setCell (base := base) (T := [27]) (a := ⟨g, 0, none⟩) (.slice x2 n2 k2) HL1.out.lo (by simp) (tagOf_heap hgk)).owns ho2 (by decide)⟩; have HFF : Hid (Fr base [27, 29] w (w2.setCell ⟨g, 0, none⟩ (.slice x2 n2 k2))) := (HF1.out.trans ((fr_append HO.out hg2).sub (by simp))).trans (Fr.setCell (.slice x2 n2 k2) HL1.out.lo (t := 27) (by simp) (tagOf_heap hgk)); clear hv2 hgk ho2 hg2)
  go_ret
  exact ⟨rfl, HR.out, HFF.out⟩
theorem rlearn_any (base g : Nat) (L : List Ro) (s : Int) (v : ByteArray) (w : World) (h : Rt w base g L) (hbase : base ≤ w.heap.size) (hlen : L.length ≤ 100000) (hv : v.size ≤ maxLen) :
    Calls Try.prog 9 #[.pointer (some ⟨g, 0, none⟩), .int .i64 s, .string v] w fun e w' => e = .returned (.int .i64 (learnE (chL L) s v)) ∧ Rt w' base g (learnL L s v) ∧ Fr base [27, 29] w w' := by
  by_cases h1 : s < 0 ∨ 400 ≤ s ∨ 64 < v.size
  · have e1 : learnE (chL L) s v = 1 := by unfold learnE; rw [if_pos h1]
    refine (rlearn_bad _ s v w hv h1).mono ?_
    rintro e w' ⟨rfl, rfl⟩
    refine ⟨by rw [e1], ?_, Fr.refl _ _ _⟩
    rw [learnL, if_neg (by rw [e1]; decide)]
    exact h
  · obtain ⟨i, rfl⟩ : ∃ i : Nat, s = (i : Nat) := ⟨s.toNat, by omega⟩
    have hi2 : ((i : Nat) : Int).toNat = i := by omega
    cases hc : fL L (i : Nat) with
    | some u =>
      have hh : hasC (chL L) i = true := by show (fL L (i : Nat)).isSome = true; rw [hc]; rfl
      have hv2 : valC (chL L) i = u := by show (fL L (i : Nat)).getD _ = u; rw [hc]; rfl
      have e1 : learnE (chL L) (i : Nat) v = if u = v then 7 else 10 := by unfold learnE; rw [if_neg h1, hi2, if_pos hh, hv2]
      refine (rlearn_had base g L (i : Nat) u v w h hlen (by omega) (by omega) (by omega) hc).mono ?_
      rintro e w' ⟨rfl, hb⟩
      refine ⟨by rw [e1], ?_, Fr.of hb⟩
      rw [learnL, if_neg (by rw [e1]; split <;> decide)]
      exact h.later hb
    | none =>
      have hh : hasC (chL L) i = false := by show (fL L (i : Nat)).isSome = false; rw [hc]; rfl
      have e1 : learnE (chL L) (i : Nat) v = 0 := by unfold learnE; rw [if_neg h1, hi2, if_neg (by rw [hh]; decide)]
      refine (rlearn_new base g L (i : Nat) v w h hbase hlen (by omega) (by omega) (by omega) hc).mono ?_
      rintro e w' ⟨rfl, hR, hF⟩
      refine ⟨by rw [e1], ?_, hF⟩
      rw [learnL, if_pos e1]
      exact hR
end Go.Proofs.Ytfibjbjheilpfaa
