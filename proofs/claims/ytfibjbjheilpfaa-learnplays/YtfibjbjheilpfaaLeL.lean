/- The document's Learn once more: which blocks stay. -/
import Derived.Test.YtfibjbjheilpfaaLeK
namespace Go.Proofs.Ytfibjbjheilpfaa
open Go Go.RowKit
set_option linter.unusedVariables false
set_option linter.unusedSimpArgs false

/-- what stays when the document learns: all but its own block, and the block of its rows -/
def KeepR (w w' : World) (g : Nat) : Prop := ∀ k, k < w.heap.size → k ≠ g → (∀ v, w.heap[g]? = some (.cells #[v] 27 (0, 0)) → v.ownBlock ≠ some k) → w'.heap[k]? = w.heap[k]?
theorem KeepR.mk {w w1 w2 : World} {g : Nat} {u v2 : Value} {o : Obj} (hgl : g < w.heap.size) (hb : Below w.heap.size w w1) (hg : w1.heap[g]? = some (.cells #[u] 27 (0, 0))) (h : (w1.alloc o).grownBy w2 u.ownBlock) : KeepR w (w2.setCell ⟨g, 0, none⟩ v2) g := by
  intro k hk hne hv
  rw [Below.heap_setCell _ _ _ _ hne]
  have hk1 : k < w1.heap.size := Nat.lt_of_lt_of_le hk hb.size
  have e := hb.block g hgl
  rw [hg] at e
  rw [h.block k (by simp; omega) (fun e2 => hv u e.symm e2.symm), heap_alloc_old _ _ hk1, hb.block k hk]
set_option maxRecDepth 100000 in
set_option maxHeartbeats 2000000 in
theorem rlearn_new2 (base g : Nat) (L : List Ro) (s : Int) (v : ByteArray) (w : World) (h : Rt w base g L) (hbase : base ≤ w.heap.size) (hlen : L.length ≤ 100000) (hv : v.size ≤ 64) (h0 : 0 ≤ s) (h4 : s < 400) (hc : fL L s = none) :
    Calls Try.prog 9 #[.pointer (some ⟨g, 0, none⟩), .int .i64 s, .string v] w fun e w' => e = .returned (.int .i64 0) ∧ Rt w' base g (L ++ [(s, v)]) ∧ Fr base [27, 29] w w' ∧ KeepR w w' g := by
  have h1 := rval_none base g L s w h hlen hc
  have d1 : decide (s < 0) = false := by simp; omega
  have d2 : decide (399 < s) = false := by simp; omega
  have HL : Hid (Rt w base g L) := h
  have HGL : Hid (g < w.heap.size) := by obtain ⟨v0, hbx, _⟩ := h.box; exact (Array.getElem?_eq_some_iff.1 hbx).1
  have HBS : Hid (base ≤ w.heap.size) := hbase
  clear h hc h0 h4 hbase
  go_enter Try.func9, Try.ntmps9
  go_wp2_with fail
  refine h1.mono ?_
  clear h1
  rintro e w1 ⟨rfl, hb1⟩
  have HL1 : Hid (Rt w1 base g L) := HL.out.later hb1
  have HF1 : Hid (Fr base [27, 29] w w1) := Fr.of hb1
  have HBB : Hid (Below w.heap.size w w1) := hb1
  have HB1 : Hid (base ≤ w1.heap.size) := Nat.le_trans HBS.out hb1.size
  clear hb1 HL HBS
  obtain ⟨a, cc, hg, hown, c0⟩ := HL1.out.cells
  have HG : Hid (w1.heap[g]? = some (.cells #[.slice a L.length cc] 27 (0, 0))) := hg
  have HO : Hid (w1.ownsRow base 29 2 (.slice a L.length cc) L.length (L.flatMap rcells)) := hown
  have f0 := frozen_of_row w1 g 0 _ 27 hg
  have hgl := (Array.getElem?_eq_some_iff.1 hg).1
  clear hg hown
  go_wp2_with (at_builtin; refine wp_append_els rcells 2 24 22 29 _ Try.underlying22 Try.info_29 rfl (by decide) (fun _ => rfl) (by decide) rfl _ _ rfl base _ _ rfl (owns_later HO.out ((Below.refl _ _).alloc (Nat.le_refl _) _)) _ 1 _ [(s, v)] rfl rfl (news_one rcells (s, v) (heap_alloc_new _ _) rfl) (rcells_one _) (by decide) (by omega) (by have := HB1.out; simp; omega) ?_; intro v2 w2 ho2 hg2 hv2; obtain ⟨x2, n2, k2, rfl⟩ := owns_slice ho2; have hgk := rows_keep HG.out HO.out (by decide) hg2; have c1 := cell_of_heap (i := 0) hgk rfl; have f1 := frozen_of_row w2 g 0 _ 27 hgk; have HR : Hid (Rt (w2.setCell ⟨g, 0, none⟩ (.slice x2 n2 k2)) base g (L ++ [(s, v)])) := ⟨HL1.out.lo, _, setOne hgk, (Fr.setCell (base := base) (T := [27]) (a := ⟨g, 0, none⟩) (.slice x2 n2 k2) HL1.out.lo (by simp) (tagOf_heap hgk)).owns ho2 (by decide)⟩; have HFF : Hid (Fr base [27, 29] w (w2.setCell ⟨g, 0, none⟩ (.slice x2 n2 k2))) := (HF1.out.trans ((fr_append HO.out hg2).sub (by simp))).trans (Fr.setCell (.slice x2 n2 k2) HL1.out.lo (t := 27) (by simp) (tagOf_heap hgk)); have HKP : Hid (KeepR w (w2.setCell ⟨g, 0, none⟩ (.slice x2 n2 k2)) g) := KeepR.mk HGL.out HBB.out HG.out hg2; clear hv2 hgk ho2 hg2)
  go_ret
  exact ⟨rfl, HR.out, HFF.out, HKP.out⟩
theorem rlearn_any2 (base g : Nat) (L : List Ro) (s : Int) (v : ByteArray) (w : World) (h : Rt w base g L) (hbase : base ≤ w.heap.size) (hlen : L.length ≤ 100000) (hv : v.size ≤ maxLen) :
    Calls Try.prog 9 #[.pointer (some ⟨g, 0, none⟩), .int .i64 s, .string v] w fun e w' => e = .returned (.int .i64 (learnE (chL L) s v)) ∧ Rt w' base g (learnL L s v) ∧ Fr base [27, 29] w w' ∧ KeepR w w' g := by
  by_cases h1 : s < 0 ∨ 400 ≤ s ∨ 64 < v.size
  · have e1 : learnE (chL L) s v = 1 := by unfold learnE; rw [if_pos h1]
    refine (rlearn_bad _ s v w hv h1).mono ?_
    rintro e w' ⟨rfl, rfl⟩
    refine ⟨by rw [e1], ?_, Fr.refl _ _ _, fun _ _ _ _ => rfl⟩
    rw [learnL, if_neg (by rw [e1]; decide)]
    exact h
  · obtain ⟨i, rfl⟩ : ∃ i : Nat, s = (i : Nat) := ⟨s.toNat, by omega⟩
    have hi2 : ((i : Nat) : Int).toNat = i := by omega
    cases hc : fL L (i : Nat) with
    | some u =>
      have hh : hasC (chL L) i = true := by show (fL L (i : Nat)).isSome = true; rw [hc]; rfl
      have hv2 : valC (chL L) i = u := by show (fL L (i : Nat)).getD _ = u; rw [hc]; rfl
      have e1 : learnE (chL L) (i : Nat) v = if u = v then 7 else 10 := by unfold learnE; rw [if_neg h1, hi2, if_pos hh, hv2]
      refine (rlearn_had base g L (i : Nat) u v w h hlen (by omega) (by omega) (by omega) hc).mono ?_
      rintro e w' ⟨rfl, hb⟩
      refine ⟨by rw [e1], ?_, Fr.of hb, fun k hk _ _ => hb.block k hk⟩
      rw [learnL, if_neg (by rw [e1]; split <;> decide)]
      exact h.later hb
    | none =>
      have hh : hasC (chL L) i = false := by show (fL L (i : Nat)).isSome = false; rw [hc]; rfl
      have e1 : learnE (chL L) (i : Nat) v = 0 := by unfold learnE; rw [if_neg h1, hi2, if_neg (by rw [hh]; decide)]
      refine (rlearn_new2 base g L (i : Nat) v w h hbase hlen (by omega) (by omega) (by omega) hc).mono ?_
      rintro e w' ⟨rfl, hR, hF, hK⟩
      refine ⟨by rw [e1], ?_, hF, hK⟩
      rw [learnL, if_pos e1]
      exact hR
end Go.Proofs.Ytfibjbjheilpfaa
