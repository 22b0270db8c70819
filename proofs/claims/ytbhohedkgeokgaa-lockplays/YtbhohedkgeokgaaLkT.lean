/- Who writes, and how many: contracts of both. -/
import Derived.Test.YtbhohedkgeokgaaLkL
namespace Go.Proofs.Ytbhohedkgeokgaa
open Go Go.RowKit
set_option linter.unusedVariables false
set_option linter.unusedSimpArgs false

def lenP (r : Rw) : Bool := decide (r.key = ⟨#[]⟩) && decide (r.till = 0)
theorem lenR_next {L : List Rw} {k : Nat} {r : Rw} (h : L[k]? = some r) : lenR (L.take (k + 1)) = lenR (L.take k) + (if lenP r = true then 1 else 0) := by
  have hk := (List.getElem?_eq_some_iff.1 h).1
  rw [List.getElem?_eq_getElem hk] at h
  simp only [Option.some.injEq] at h
  unfold lenR
  rw [List.take_succ_eq_append_getElem hk, List.countP_append, h, List.countP_singleton]
  rfl
set_option maxRecDepth 100000 in
set_option maxHeartbeats 2000000 in
theorem rlen_any (base g : Nat) (L : List Rw) (last : Int) (w : World) (h : Rt w base g L last) (hlen : L.length ≤ 100000) :
    Calls Try.prog 14 #[.pointer (some ⟨g, 0, none⟩)] w fun e w' => e = .returned (.int .i64 (lenR L : Nat)) ∧ Below w.heap.size w w' := by
  obtain ⟨a, c, -, h2, c0, -⟩ := h.cells
  have HO : Hid (w.ownsRow base 47 6 (.slice a L.length c) L.length (L.flatMap Rw.cells)) := h2
  clear h h2
  go_enter Try.func14, Try.ntmps14
  go_wp2
  go_loopw [3, 11] (fun v t wr => ∃ k m : Nat, v = .int .i64 (m : Nat) ∧ t = .int .i64 (k : Nat) ∧ k ≤ L.length ∧ m ≤ k ∧ Hid (m = lenR (L.take k)) ∧ Hid (Below w.heap.size w wr)) (fun _ t _ => L.length - (intOf t).toNat)
  case atStart => exact ⟨0, 0, rfl, rfl, by omega, by omega, rfl, Below.refl _ _⟩
  case round =>
    obtain ⟨k, m, rfl, rfl, hk, hmk, HM, HW⟩ := hrel
    by_cases hlt : k < L.length
    · obtain ⟨a', c', e, -, -, -, h5⟩ := rows_at (owns_later HO.out HW.out)
      simp only [Value.slice.injEq, true_and] at e
      obtain ⟨rfl, rfl⟩ := e
      obtain ⟨b, off, rfl, hc⟩ := h5 (by omega)
      have hr : L[k]? = some L[k] := List.getElem?_eq_getElem hlt
      generalize L[k] = r at hr
      obtain ⟨d0, d1, d2, d3, d4, d5⟩ := hc k r hr
      have HR := lenR_next hr
      rw [← HM.out] at HR
      clear hc h5 hr
      obtain ⟨x, key, wri, at_, till⟩ := r
      simp only at d0 d1 d2 d3 d4 d5
      have HX : Hid (Below w.heap.size w (wr.alloc (.cells #[.int .i64 x.1, .int .u64 x.2, .string key, .bool wri, .int .i64 at_, .int .i64 till] 47))) := HW.out.alloc HW.out.size _
      by_cases hz : key = ⟨#[]⟩
      · have hbz : (key.toList == []) = true := by rw [none_eq]; simp [hz]
        by_cases ht : till = 0
        · have HE : Hid (m + 1 = lenR (L.take (k + 1))) := by rw [Hid, HR]; simp [lenP, hz, ht]
          subst ht
          clear hz HR
          go_wp2
          go_roundw
          case rel => exact ⟨k + 1, m + 1, by go_num, by go_num, by omega, by omega, HE, HX⟩
          case measure => simp [intOf]; omega
        · have hb : (till == 0) = false := by simp [ht]
          have HE : Hid (m = lenR (L.take (k + 1))) := by rw [Hid, HR]; simp [lenP, ht]
          clear hz ht HR
          go_wp2
          go_roundw
          case rel => exact ⟨k + 1, m, rfl, by go_num, by omega, by omega, HE, HX⟩
          case measure => simp [intOf]; omega
      · have hbz : (key.toList == []) = false := by rw [none_eq]; simp [hz]
        have HE : Hid (m = lenR (L.take (k + 1))) := by rw [Hid, HR]; simp [lenP, hz]
        clear hz HR
        go_wp2
        go_roundw
        case rel => exact ⟨k + 1, m, rfl, by go_num, by omega, by omega, HE, HX⟩
        case measure => simp [intOf]; omega
    · have HE : Hid (m = lenR L) := by rw [Hid, HM.out, List.take_of_length_le (by omega)]
      go_wp2
      go_ret
      exact ⟨by rw [← HE.out]; rfl, HW.out⟩

/-- who writes, as values -/
def wval (o : Option Id) : Value := .tuple #[idv (o.getD (0, 0)), .bool o.isSome]
theorem find_first {α : Type} {p : α → Bool} : ∀ {l : List α} {k : Nat} {x : α}, l[k]? = some x → p x = true → (∀ j y, j < k → l[j]? = some y → p y = false) → l.find? p = some x := by
  intro l
  induction l with
  | nil => intro k x h; simp at h
  | cons y l ih =>
    intro k x h hp hn
    cases k with
    | zero => simp at h; subst h; rw [List.find?_cons, hp]
    | succ k =>
      rw [List.find?_cons, hn 0 y (by omega) (by simp)]
      exact ih (by simpa using h) hp (fun j z hj hz => hn (j + 1) z (by omega) (by simpa using hz))
theorem find_no {α : Type} {p : α → Bool} {l : List α} (h : ∀ j y, j < l.length → l[j]? = some y → p y = false) : l.find? p = none := by
  rw [List.find?_eq_none]
  intro x hx
  obtain ⟨i, hi⟩ := List.getElem?_of_mem hx
  rw [h i x (List.getElem?_eq_some_iff.1 hi).1 hi]
  simp

set_option maxRecDepth 100000 in
set_option maxHeartbeats 4000000 in
theorem rwriter_any (base g : Nat) (L : List Rw) (last : Int) (key : ByteArray) (n : Int) (w : World) (h : Rt w base g L last) (hlen : L.length ≤ 100000) :
    Calls Try.prog 16 #[.pointer (some ⟨g, 0, none⟩), .string key, .int .i64 n] w fun e w' => e = .returned (wval (writerR L key n)) ∧ Below w.heap.size w w' := by
  have b0 : Below w.heap.size w (w.alloc (.cells #[.int .i64 0, .int .u64 0] 31)) := (Below.refl _ _).alloc (Nat.le_refl _) _
  have hn := heap_alloc_new w (.cells #[.int .i64 0, .int .u64 0] 31)
  have HB0 : Hid (Below w.heap.size w (w.alloc (.cells #[.int .i64 0, .int .u64 0] 31))) := b0
  have HN : Hid ((w.alloc (.cells #[.int .i64 0, .int .u64 0] 31)).heap[w.heap.size]? = some (.cells #[.int .i64 0, .int .u64 0] 31)) := hn
  obtain ⟨a, c, -, h2, c0, -⟩ := (h.later b0).cells
  have HO : Hid ((w.alloc (.cells #[.int .i64 0, .int .u64 0] 31)).ownsRow base 47 6 (.slice a L.length c) L.length (L.flatMap Rw.cells)) := h2
  clear h h2 b0 hn
  go_enter Try.func16, Try.ntmps16
  go_wp2
  generalize w.alloc (.cells #[.int .i64 0, .int .u64 0] 31) = w0 at *
  go_loopw [15] (fun t wr => ∃ k : Nat, t = .int .i64 (k : Nat) ∧ k ≤ L.length ∧ Hid (∀ j x, j < k → L[j]? = some x → isWR key n x = false) ∧ Hid (Below w0.heap.size w0 wr)) (fun t _ => L.length - (intOf t).toNat)
  case atStart => exact ⟨0, rfl, by omega, fun i x hi => by omega, Below.refl _ _⟩
  case round =>
    obtain ⟨k, rfl, hk, HK, HW⟩ := hrel
    have HN1 : Hid (wr.heap[w.heap.size]? = some (.cells #[.int .i64 0, .int .u64 0] 31)) := (HW.out.block _ (Array.getElem?_eq_some_iff.1 HN.out).1).trans HN.out
    by_cases hlt : k < L.length
    · obtain ⟨a', c', e, -, -, -, h5⟩ := rows_at (owns_later HO.out HW.out)
      simp only [Value.slice.injEq, true_and] at e
      obtain ⟨rfl, rfl⟩ := e
      obtain ⟨b, off, rfl, hc⟩ := h5 (by omega)
      have hr : L[k]? = some L[k] := List.getElem?_eq_getElem hlt
      generalize L[k] = r at hr
      obtain ⟨d0, d1, d2, d3, d4, d5⟩ := hc k r hr
      have HR : Hid (L[k]? = some r) := hr
      clear hc h5 hr
      obtain ⟨x, key2, wri2, at_, till⟩ := r
      simp only at d0 d1 d2 d3 d4 d5
      have HX : Hid (Below w0.heap.size w0 (wr.alloc (.cells #[.int .i64 x.1, .int .u64 x.2, .string key2, .bool wri2, .int .i64 at_, .int .i64 till] 47))) := HW.out.alloc HW.out.size _
      have go_on : isWR key n ⟨x, key2, wri2, at_, till⟩ = false → Hid (∀ j y, j < k + 1 → L[j]? = some y → isWR key n y = false) := fun hp => next_false HK.out HR.out hp
      have stop : isWR key n ⟨x, key2, wri2, at_, till⟩ = true → Hid (writerR L key n = some x) := fun hp => by rw [Hid, writerR, find_first HR.out hp HK.out]; rfl
      have n4 : ((wr.setCell ⟨w.heap.size, 0, none⟩ (.int .i64 x.1)).setCell ⟨w.heap.size, 1, none⟩ (.int .u64 x.2)).heap[w.heap.size]? = some (.cells #[.int .i64 x.1, .int .u64 x.2] 31) := two_set1 (two_set0 HN1.out)
      have n5 : (((wr.setCell ⟨w.heap.size, 0, none⟩ (.int .i64 x.1)).setCell ⟨w.heap.size, 1, none⟩ (.int .u64 x.2)).alloc (.cells #[.int .i64 x.1, .int .u64 x.2, .string key2, .bool wri2, .int .i64 at_, .int .i64 till] 47)).heap[w.heap.size]? = some (.cells #[.int .i64 x.1, .int .u64 x.2] 31) := (heap_alloc_old _ _ (Array.getElem?_eq_some_iff.1 n4).1).trans n4
      have z0 : wr.cell? ⟨w.heap.size, 0, none⟩ = some (.int .i64 0) := cell_of_heap HN1.out rfl
      have z1 : wr.cell? ⟨w.heap.size, 1, none⟩ = some (.int .u64 0) := cell_of_heap HN1.out rfl
      have z2 : wr.frozen? ⟨w.heap.size, 0, none⟩ = false := frozen_of_row _ _ _ _ _ HN1.out
      have z3 : wr.frozen? ⟨w.heap.size, 1, none⟩ = false := frozen_of_row _ _ _ _ _ HN1.out
      have z4 : (wr.setCell ⟨w.heap.size, 0, none⟩ (.int .i64 x.1)).cell? ⟨w.heap.size, 1, none⟩ = some (.int .u64 0) := cell_of_heap (two_set0 HN1.out) rfl
      have z5 : (wr.setCell ⟨w.heap.size, 0, none⟩ (.int .i64 x.1)).frozen? ⟨w.heap.size, 1, none⟩ = false := frozen_of_row _ _ _ _ _ (two_set0 HN1.out)
      have y0 : (((wr.setCell ⟨w.heap.size, 0, none⟩ (.int .i64 x.1)).setCell ⟨w.heap.size, 1, none⟩ (.int .u64 x.2)).alloc (.cells #[.int .i64 x.1, .int .u64 x.2, .string key2, .bool wri2, .int .i64 at_, .int .i64 till] 47)).cell? ⟨w.heap.size, 0, none⟩ = some (.int .i64 x.1) := cell_of_heap n5 rfl
      have y1 : (((wr.setCell ⟨w.heap.size, 0, none⟩ (.int .i64 x.1)).setCell ⟨w.heap.size, 1, none⟩ (.int .u64 x.2)).alloc (.cells #[.int .i64 x.1, .int .u64 x.2, .string key2, .bool wri2, .int .i64 at_, .int .i64 till] 47)).cell? ⟨w.heap.size, 1, none⟩ = some (.int .u64 x.2) := cell_of_heap n5 rfl
      have HXF : Hid (Below w.heap.size w (((wr.setCell ⟨w.heap.size, 0, none⟩ (.int .i64 x.1)).setCell ⟨w.heap.size, 1, none⟩ (.int .u64 x.2)).alloc (.cells #[.int .i64 x.1, .int .u64 x.2, .string key2, .bool wri2, .int .i64 at_, .int .i64 till] 47))) := (((HB0.out.trans (HW.out.mono HB0.out.size)).setCell (Nat.le_refl _) _).setCell (Nat.le_refl _) _).alloc (by have := (Array.getElem?_eq_some_iff.1 n4).1; omega) _
      have hwl : w.heap.size < wr.heap.size := (Array.getElem?_eq_some_iff.1 HN1.out).1
      clear n4 n5
      cases wri2
      · have HK2 := go_on (by simp [isWR])
        clear go_on stop
        go_wp2
        go_roundw
        case rel => exact ⟨k + 1, by go_num, by omega, HK2, HX⟩
        case measure => simp [intOf]; omega
      · by_cases hq : key2 = key
        · have hbe : (key2.toList == key.toList) = true := by simp [hq]
          by_cases hle : at_ ≤ n
          · by_cases ht : till = 0
            · have HE := stop (by simp [isWR, hq, hle, ht])
              subst ht
              clear hq
              clear go_on stop
              go_wp2
              refine bodyPost_ret (v := .tuple #[.agg #[.int .i64 x.1, .int .u64 x.2], .bool true]) (by simp [results, Try.results16, go_sem, y0, y1]) rfl ?_
              exact ⟨by rw [HE.out]; rfl, HXF.out⟩
            · have hb : (till == 0) = false := by simp [ht]
              by_cases hg : n < till
              · have HE := stop (by simp [isWR, hq, hle, hg])
                clear hq ht
                clear go_on stop
                go_wp2
                refine bodyPost_ret (v := .tuple #[.agg #[.int .i64 x.1, .int .u64 x.2], .bool true]) (by simp [results, Try.results16, go_sem, y0, y1]) rfl ?_
                exact ⟨by rw [HE.out]; rfl, HXF.out⟩
              · have HK2 := go_on (by simp [isWR, ht]; omega)
                clear hq ht
                clear go_on stop
                go_wp2
                go_roundw
                case rel => exact ⟨k + 1, by go_num, by omega, HK2, HX⟩
                case measure => simp [intOf]; omega
          · have HK2 := go_on (by simp [isWR]; intro _ h; omega)
            clear hq
            clear go_on stop
            go_wp2
            go_roundw
            case rel => exact ⟨k + 1, by go_num, by omega, HK2, HX⟩
            case measure => simp [intOf]; omega
        · have hbe : (key2.toList == key.toList) = false := by rw [key_eq]; simp [hq]
          have HK2 := go_on (by simp [isWR, hq])
          clear hq
          clear go_on stop
          go_wp2
          go_roundw
          case rel => exact ⟨k + 1, by go_num, by omega, HK2, HX⟩
          case measure => simp [intOf]; omega
    · have HE : Hid (writerR L key n = none) := by rw [Hid, writerR, find_no (fun j y hj hy => HK.out j y (by omega) hy)]; rfl
      have z0 : wr.cell? ⟨w.heap.size, 0, none⟩ = some (.int .i64 0) := cell_of_heap HN1.out rfl
      have z1 : wr.cell? ⟨w.heap.size, 1, none⟩ = some (.int .u64 0) := cell_of_heap HN1.out rfl
      have z2 : wr.frozen? ⟨w.heap.size, 0, none⟩ = false := frozen_of_row _ _ _ _ _ HN1.out
      have z3 : wr.frozen? ⟨w.heap.size, 1, none⟩ = false := frozen_of_row _ _ _ _ _ HN1.out
      have n4 : ((wr.setCell ⟨w.heap.size, 0, none⟩ (.int .i64 0)).setCell ⟨w.heap.size, 1, none⟩ (.int .u64 0)).heap[w.heap.size]? = some (.cells #[.int .i64 0, .int .u64 0] 31) := two_set1 (two_set0 HN1.out)
      have y0 : ((wr.setCell ⟨w.heap.size, 0, none⟩ (.int .i64 0)).setCell ⟨w.heap.size, 1, none⟩ (.int .u64 0)).cell? ⟨w.heap.size, 0, none⟩ = some (.int .i64 0) := cell_of_heap n4 rfl
      have y1 : ((wr.setCell ⟨w.heap.size, 0, none⟩ (.int .i64 0)).setCell ⟨w.heap.size, 1, none⟩ (.int .u64 0)).cell? ⟨w.heap.size, 1, none⟩ = some (.int .u64 0) := cell_of_heap n4 rfl
      have HXF : Hid (Below w.heap.size w ((wr.setCell ⟨w.heap.size, 0, none⟩ (.int .i64 0)).setCell ⟨w.heap.size, 1, none⟩ (.int .u64 0))) := ((HB0.out.trans (HW.out.mono HB0.out.size)).setCell (Nat.le_refl _) _).setCell (Nat.le_refl _) _
      clear n4
      go_wp2
      refine bodyPost_ret (v := .tuple #[.agg #[.int .i64 0, .int .u64 0], .bool false]) (by simp [results, Try.results16, go_sem, y0, y1]) rfl ?_
      exact ⟨by rw [HE.out]; rfl, HXF.out⟩
end Go.Proofs.Ytbhohedkgeokgaa
