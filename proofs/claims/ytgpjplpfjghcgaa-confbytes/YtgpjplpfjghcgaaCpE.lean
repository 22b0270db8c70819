/- conf.Put. -/
import Derived.Test.YtgpjplpfjghcgaaCpD
namespace Go.Proofs.Ytgpjplpfjghcgaa
open Go Go.RowKit
set_option linter.unusedVariables false
set_option linter.unusedSimpArgs false

theorem vals_row {w : World} {a : Option Addr} {n : Nat} {bs : List Nat} (h : Row w a n bs) : Vals w a n (cellsOf bs) := by
  refine ⟨by rw [cellsOf_length]; exact h.1, ?_⟩
  rcases h.2.2.2 with rfl | ⟨b, off, e, hc⟩
  · left; rfl
  · refine .inr ⟨b, off, e, fun i u hu => ?_⟩
    have hi : i < bs.length := by
      have := (List.getElem?_eq_some_iff.1 hu).1
      rw [cellsOf_length] at this; exact this
    rw [hc i (by omega)]
    simp [cellsOf, hi] at hu
    rw [← hu]
    simp [hi]
theorem own_vals {w : World} {base : Nat} {v : Value} {bs : List Nat} (h : OwnV w base 5 v (cellsOf bs)) (hb : ∀ x ∈ bs, x < 256) : Own w base v bs := by
  refine ⟨?_, hb⟩
  unfold OwnV at h
  rw [cellsOf_length] at h
  exact h

set_option maxHeartbeats 4000000 in
set_option maxRecDepth 100000 in
theorem put_conf (a : Option Addr) (n cc : Nat) (bs : List Nat) (v : Value) (c : Cf) (w : World) (hr : Row w a n bs) (hz : a = none → cc = 0) (hn : n ≤ 100000) (hc : Cfr w v c) (he : c.ep < 18446744073709551616) :
    Calls Try.prog 21 #[.slice a n cc, v] w fun e w' => (∃ v', e = .returned v' ∧ Own w' w.heap.size v' (bs ++ if rightB c then bytesC c else [])) ∧ Below w.heap.size w w' := by
  obtain ⟨r, hrr⟩ : ∃ r, r = bs ++ if rightB c then bytesC c else [] := ⟨_, rfl⟩
  rw [← hrr]
  have HF : Hid (r = bs ++ if rightB c then bytesC c else []) := hrr
  clear hrr
  have HC : Hid (Cfr w v c) := hc
  have HR : Hid (Row w a n bs) := hr
  obtain ⟨p, c1, q, c2, rfl, h1, h2, hl⟩ := hc
  have hl9 : c.l.length ≤ 100000 := hl
  clear h1 h2 hr hl
  have hW0 : Below w.heap.size w (w.alloc (.cells (carr c.ep c.sh (.slice p c.l.length c1) (.slice q c.l.length c2) c.le) 29)) := (Below.refl _ _).alloc (Nat.le_refl _) _
  have hP0 := heap_alloc_new w (.cells (carr c.ep c.sh (.slice p c.l.length c1) (.slice q c.l.length c2) c.le) 29)
  generalize hW : (w.alloc (.cells (carr c.ep c.sh (.slice p c.l.length c1) (.slice q c.l.length c2) c.le) 29)) = w0 at *
  have HW0 : Hid (Below w.heap.size w w0) := hW0
  have HP0 : Hid (w0.heap[w.heap.size]? = some (.cells (carr c.ep c.sh (.slice p c.l.length c1) (.slice q c.l.length c2) c.le) 29)) := hP0
  clear hW0 hP0
  have hcall := right_any _ c _ (HC.out.later HW0.out)
  obtain ⟨x0, x1, x2, x3, x4⟩ := five_cells HP0.out
  go_enter Try.func21, Try.ntmps21
  go_wp2_with fail
  refine hcall.mono ?_
  clear hcall x0 x1 x2 x3 x4 hW
  rintro e w1 ⟨rfl, hb1⟩
  have HW1 : Hid (Below w.heap.size w w1) := HW0.out.trans (hb1.mono HW0.out.size)
  have HP1 : Hid (w1.heap[w.heap.size]? = some (.cells (carr c.ep c.sh (.slice p c.l.length c1) (.slice q c.l.length c2) c.le) 29)) := heap_kept HP0.out hb1
  clear hb1 HP0 HW0
  cases hrt : rightB c with
  | false =>
    have hcall := clone_byte a n cc (cellsOf bs) w1 (vals_row (HR.out.later HW1.out)) hn cellsOf_one
    go_wp2_with fail
    refine hcall.mono ?_
    clear hcall
    rintro e w2 ⟨⟨v2, rfl, ho⟩, hb2⟩
    have HO : Hid (Own w2 w.heap.size v2 bs) := (own_vals ho HR.out.2.1).mono HW1.out.size
    have HB : Hid (Below w.heap.size w w2) := HW1.out.trans (hb2.mono HW1.out.size)
    clear ho hb2
    go_wp2
    go_ret
    exact ⟨⟨_, rfl, by rw [HF.out, hrt]; simpa using HO.out⟩, HB.out⟩
  | true =>
    obtain ⟨x0, x1, x2, x3, x4⟩ := five_cells HP1.out
    have hcall := cbytes_any _ c _ (HC.out.later HW1.out) hrt he
    go_wp2_with fail
    refine hcall.mono ?_
    clear hcall x0 x1 x2 x3 x4
    rintro e w2 ⟨⟨b, m, rfl, hr2, hz2, hm2⟩, hb2⟩
    have HW2 : Hid (Below w.heap.size w w2) := HW1.out.trans (hb2.mono HW1.out.size)
    have HR2 : Hid (Row w2 b m (bytesC c)) := hr2
    have hm0 : 0 < m := by
      have e1 := hr2.1
      have e2 : 0 < (bytesC c).length := by
        have : 1 ≤ (Oct.put c.ep).length := (Oct.putF_len 9 c.ep).1
        simp only [bytesC, headB, List.length_append]
        omega
      omega
    clear hr2 hb2
    have hW3 : Below w2.heap.size w2 (w2.alloc (.cells #[.slice a n cc, .slice b m m] 48)) := (Below.refl _ _).alloc (Nat.le_refl _) _
    have g0 : (w2.alloc (.cells #[.slice a n cc, .slice b m m] 48)).cell? ⟨w2.heap.size, 0, none⟩ = some (.slice a n cc) := by simp
    have g1 : (w2.alloc (.cells #[.slice a n cc, .slice b m m] 48)).cell? ⟨w2.heap.size, 1, none⟩ = some (.slice b m m) := by simp
    have hcall := concat_any w2.heap.size a b n m cc m bs (bytesC c) _ g0 g1 (HR.out.later (HW2.out.trans (hW3.mono HW2.out.size))) (HR2.out.later hW3) hz hz2 (by omega) (by omega)
    have HW3 : Hid (Below w.heap.size w (w2.alloc (.cells #[.slice a n cc, .slice b m m] 48))) := HW2.out.trans (hW3.mono HW2.out.size)
    clear g0 g1 hW3
    generalize hw3 : w2.alloc (.cells #[.slice a n cc, .slice b m m] 48) = w3 at *
    go_wp2_with fail
    refine hcall.mono ?_
    clear hcall hw3
    rintro e w4 ⟨⟨v4, rfl, ho⟩, hb4⟩
    have HO : Hid (Own w4 w.heap.size v4 (bs ++ bytesC c)) := ho.mono HW3.out.size
    have HB : Hid (Below w.heap.size w w4) := HW3.out.trans (hb4.mono HW3.out.size)
    clear ho hb4
    go_wp2
    go_ret
    exact ⟨⟨_, rfl, by rw [HF.out, hrt]; simpa using HO.out⟩, HB.out⟩
end Go.Proofs.Ytgpjplpfjghcgaa
