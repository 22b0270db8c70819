/- Sorted rows: none is empty; two that tell the same are the same. -/
import Derived.Test.YtmahigfamgbhfaaSpQ
namespace Go.Proofs.Ytmahigfamgbhfaa
open Go.RowKit Go.Maps
set_option linter.unusedVariables false

theorem ofL_below {M : List LRow} {q : LRow} {s : ByteArray} (h : Srt (q :: M)) (hs : Op.bytesLess s.toList q.1.toList = true) : ofL (q :: M) s = [] := by
  have h' := List.pairwise_cons.1 h
  refine ofL_absent fun r hr => ?_
  rcases List.mem_cons.1 hr with rfl | hr
  · exact fun e => less_ne hs e.symm
  · exact fun e => less_ne (less_trans hs (h'.1 r hr)) e.symm
theorem rows_same : ∀ {L M : List LRow}, Srt L → Srt M → Full L → Full M → (∀ s, ofL L s = ofL M s) → L = M
  | [], [], _, _, _, _, _ => rfl
  | [], q :: M, _, hM, _, fM, h => by
    have := h q.1
    rw [ofL_row hM (List.mem_cons_self ..)] at this
    exact absurd this.symm (fM q (List.mem_cons_self ..))
  | r :: L, [], hL, _, fL, _, h => by
    have := h r.1
    rw [ofL_row hL (List.mem_cons_self ..)] at this
    exact absurd this (fL r (List.mem_cons_self ..))
  | r :: L, q :: M, hL, hM, fL, fM, h => by
    have hr := h r.1
    have hq := h q.1
    rw [ofL_row hL (List.mem_cons_self ..)] at hr
    rw [ofL_row hM (List.mem_cons_self ..)] at hq
    have e : r.1.toList = q.1.toList := by
      cases h1 : Op.bytesLess r.1.toList q.1.toList with
      | true => rw [ofL_below hM h1] at hr; exact absurd hr (fL r (List.mem_cons_self ..))
      | false =>
        cases h2 : Op.bytesLess q.1.toList r.1.toList with
        | true => rw [ofL_below hL h2] at hq; exact absurd hq.symm (fM q (List.mem_cons_self ..))
        | false =>
          by_cases e : r.1.toList = q.1.toList
          · exact e
          · rw [less_tri h1 e] at h2; cases h2
    have e1 : r.1 = q.1 := Go.WideShapes.bytes_inj ((bytes_same _ _).1 e)
    have e2 : r.2 = q.2 := by
      rw [hr, e1, ofL_row hM (List.mem_cons_self ..)]
    have hL' := List.pairwise_cons.1 hL
    have hM' := List.pairwise_cons.1 hM
    have ht : L = M := rows_same hL'.2 hM'.2 (fun x hx => fL x (List.mem_cons_of_mem _ hx)) (fun x hx => fM x (List.mem_cons_of_mem _ hx)) fun s => by
      by_cases hs : r.1.toList = s.toList
      · rw [ofL_absent (fun x hx => ?_), ofL_absent (fun x hx => ?_)]
        · rw [← hs, e]; exact fun e => less_ne (hM'.1 x hx) e.symm
        · rw [← hs]; exact fun e => less_ne (hL'.1 x hx) e.symm
      · have := h s
        have a1 : ofL (r :: L) s = ofL L s := if_neg hs
        have a2 : ofL (q :: M) s = ofL M s := if_neg (by rw [← e]; exact hs)
        rwa [a1, a2] at this
    rw [ht, Prod.ext e1 e2]
end Go.Proofs.Ytmahigfamgbhfaa
