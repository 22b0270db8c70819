/- Who writes: a contract of the program's Writer. -/
import Derived.Test.YtbhohedkgeokgaaLkT
namespace Go.Proofs.Ytbhohedkgeokgaa
open Go Go.RowKit
set_option linter.unusedVariables false
set_option linter.unusedSimpArgs false

def covP (n : Int) (s : Spn) : Bool := decide (s.at_ ≤ n) && (decide (s.till = 0) || decide (n < s.till))
theorem isW_eq (key : ByteArray) (n : Int) (s : Spn) : isW key n s = (covP n s && inK key s.wr) := rfl
set_option maxRecDepth 100000 in
theorem covers_any (s : Spn) (n : Int) (w : World) (h1 : SR w s.rv s.rd) (h2 : SR w s.wv s.wr) :
    Calls Try.prog 27 #[s.value, .int .i64 n] w fun e w' => e = .returned (.bool (covP n s)) ∧ Below w.heap.size w w' := by
  obtain ⟨x, at_, till, rd, wl, rv, wv⟩ := s
  simp only at h1 h2
  obtain ⟨ra, rc, rfl, -⟩ := h1.slice
  obtain ⟨wa, wc, rfl, -⟩ := h2.slice
  have HB : Hid (Below w.heap.size w (w.alloc (.cells #[.int .i64 x.1, .int .u64 x.2, .int .i64 at_, .int .i64 till, .slice ra rd.length rc, .slice wa wl.length wc] 58))) := (Below.refl _ _).alloc (Nat.le_refl _) _
  clear h1 h2
  by_cases hle : at_ ≤ n
  · by_cases ht : till = 0
    · have HE : Hid (covP n ⟨x, at_, till, rd, wl, .slice ra rd.length rc, .slice wa wl.length wc⟩ = true) := by rw [Hid]; simp [covP, hle, ht]
      subst ht
      go_enter Try.func27, Try.ntmps27
      go_wp2
      go_ret
      exact ⟨by rw [HE.out]; rfl, HB.out⟩
    · have hb : (till == 0) = false := by simp [ht]
      by_cases hg : n < till
      · have HE : Hid (covP n ⟨x, at_, till, rd, wl, .slice ra rd.length rc, .slice wa wl.length wc⟩ = true) := by rw [Hid]; simp [covP, hle, hg]
        clear ht
        go_enter Try.func27, Try.ntmps27
        go_wp2
        go_ret
        exact ⟨by rw [HE.out]; rfl, HB.out⟩
      · have HE : Hid (covP n ⟨x, at_, till, rd, wl, .slice ra rd.length rc, .slice wa wl.length wc⟩ = false) := by rw [Hid]; simp [covP, hg, ht]
        clear ht
        go_enter Try.func27, Try.ntmps27
        go_wp2
        go_ret
        exact ⟨by rw [HE.out]; rfl, HB.out⟩
  · have HE : Hid (covP n ⟨x, at_, till, rd, wl, .slice ra rd.length rc, .slice wa wl.length wc⟩ = false) := by rw [Hid]; simp [covP, hle]
    go_enter Try.func27, Try.ntmps27
    go_wp2
    go_ret
    exact ⟨by rw [HE.out]; rfl, HB.out⟩

set_option maxRecDepth 100000 in
set_option maxHeartbeats 8000000 in
theorem writer_any (base g : Nat) (H F : List Spn) (last : Int) (key : ByteArray) (n : Int) (w : World) (h : Tb w base g H F last) (hlH : H.length ≤ 1000) (hlF : F.length ≤ 1000) :
    Calls Try.prog 15 #[.pointer (some ⟨g, 0, none⟩), .string key, .int .i64 n] w fun e w' => e = .returned (wval (writerS (H ++ F) key n)) ∧ Below w.heap.size w w' := by
  have b0 : Below w.heap.size w (w.alloc (.cells #[.int .i64 0, .int .u64 0] 31)) := (Below.refl _ _).alloc (Nat.le_refl _) _
  have hn := heap_alloc_new w (.cells #[.int .i64 0, .int .u64 0] 31)
  have HB0 : Hid (Below w.heap.size w (w.alloc (.cells #[.int .i64 0, .int .u64 0] 31))) := b0
  have HN : Hid ((w.alloc (.cells #[.int .i64 0, .int .u64 0] 31)).heap[w.heap.size]? = some (.cells #[.int .i64 0, .int .u64 0] 31)) := hn
  obtain ⟨ha, hc, fa, fc, -, h2, h3, c0, c1, -⟩ := (h.later b0).cells
  have HH : Hid (SpO (w.alloc (.cells #[.int .i64 0, .int .u64 0] 31)) base (.slice ha H.length hc) H) := h2
  have HF : Hid (SpO (w.alloc (.cells #[.int .i64 0, .int .u64 0] 31)) base (.slice fa F.length fc) F) := h3
  clear h h2 h3 b0 hn
  go_enter Try.func15, Try.ntmps15
  go_wp2_with fail
  generalize w.alloc (.cells #[.int .i64 0, .int .u64 0] 31) = w0 at *
  go_region
  have hb1 : Below w0.heap.size w0 (w0.alloc (.cells #[.slice ha H.length hc, .slice fa F.length fc] 52)).drew := ((Below.refl _ _).alloc (Nat.le_refl _) _).drew
  have HB1 : Hid (Below w.heap.size w (w0.alloc (.cells #[.slice ha H.length hc, .slice fa F.length fc] 52)).drew) := HB0.out.trans (hb1.mono HB0.out.size)
  have HN1 : Hid (((w0.alloc (.cells #[.slice ha H.length hc, .slice fa F.length fc] 52)).drew).heap[w.heap.size]? = some (.cells #[.int .i64 0, .int .u64 0] 31)) := (hb1.block _ (Array.getElem?_eq_some_iff.1 HN.out).1).trans HN.out
  have HL1 : Hid (((w0.alloc (.cells #[.slice ha H.length hc, .slice fa F.length fc] 52)).drew).heap[w0.heap.size]? = some (.cells #[.slice ha H.length hc, .slice fa F.length fc] 52)) := heap_alloc_new w0 _
  have HH1 : Hid (SpO (w0.alloc (.cells #[.slice ha H.length hc, .slice fa F.length fc] 52)).drew base (.slice ha H.length hc) H) := HH.out.later hb1
  have HF1 : Hid (SpO (w0.alloc (.cells #[.slice ha H.length hc, .slice fa F.length fc] 52)).drew base (.slice fa F.length fc) F) := HF.out.later hb1
  clear hb1 HB0 HN HH HF c0 c1
  go_wp2
  generalize (w0.alloc (.cells #[.slice ha H.length hc, .slice fa F.length fc] 52)).drew = w1 at *
  go_loopw [25] (fun t wx => ∃ k : Nat, t = .int .i64 (k : Nat) ∧ k ≤ 2 ∧ Hid (0 < k → ∀ i x, i < H.length → H[i]? = some x → isW key n x = false) ∧ Hid (1 < k → ∀ i x, i < F.length → F[i]? = some x → isW key n x = false) ∧ Hid (Below w1.heap.size w1 wx)) (fun t _ => 2 - (intOf t).toNat)
  case atStart => exact ⟨0, rfl, by omega, fun h => by omega, fun h => by omega, Below.refl _ _⟩
  case round =>
    obtain ⟨k, rfl, hk, HA0, HA1, HW⟩ := hrel
    have n1 := (HW.out.block _ (Array.getElem?_eq_some_iff.1 HL1.out).1).trans HL1.out
    have l0 : wr.cell? ⟨w0.heap.size, 0, none⟩ = some (.slice ha H.length hc) := cell_of_heap n1 rfl
    have l1 : wr.cell? ⟨w0.heap.size, 1, none⟩ = some (.slice fa F.length fc) := cell_of_heap n1 rfl
    clear n1
    rcases (show k = 0 ∨ k = 1 ∨ k = 2 by omega) with rfl | rfl | rfl
    · 
      go_wp2
      go_loopw [31] (fun t wx => ∃ j : Nat, t = .int .i64 (j : Nat) ∧ j ≤ H.length ∧ Hid (∀ i x, i < j → H[i]? = some x → isW key n x = false) ∧ Hid (Below w1.heap.size w1 wx)) (fun t _ => H.length - (intOf t).toNat)
      case atStart => exact ⟨0, rfl, by omega, fun i x hi => by omega, HW⟩
      case round =>
        clear HW l0 l1
        obtain ⟨j, rfl, hj, HJ, HW⟩ := hrel
        by_cases hjl : j < H.length
        · have hs : H[j]? = some H[j] := List.getElem?_eq_getElem hjl
          generalize H[j] = s at hs
          obtain ⟨a', c', e, -, -, -, h5⟩ := (HH1.out.later HW.out).at
          simp only [Value.slice.injEq, true_and] at e
          obtain ⟨rfl, rfl⟩ := e
          obtain ⟨b, off, rfl, hcc⟩ := h5 (by omega)
          obtain ⟨ra, rc, wa, wc, e1, e2, k1, k2, d0, d1, d2, d3, d4, d5⟩ := hcc j s hs
          have HSS : Hid (H[j]? = some s) := hs
          clear hcc h5 hs
          obtain ⟨x, at_, till, rd, wl, rv, wv⟩ := s
          simp only at e1 e2
          subst e1 e2
          have bx : Below wr.heap.size wr (wr.alloc (.cells #[.int .i64 x.1, .int .u64 x.2, .int .i64 at_, .int .i64 till, .slice ra rd.length rc, .slice wa wl.length wc] 58)) := (Below.refl _ _).alloc (Nat.le_refl _) _
          have q := covers_any ⟨x, at_, till, rd, wl, .slice ra rd.length rc, .slice wa wl.length wc⟩ n _ (k1.later bx) (k2.later bx)
          have HK2 : Hid (SR (wr.alloc (.cells #[.int .i64 x.1, .int .u64 x.2, .int .i64 at_, .int .i64 till, .slice ra rd.length rc, .slice wa wl.length wc] 58)) (.slice wa wl.length wc) wl) := k2.later bx
          have HL : Hid ((wr.alloc (.cells #[.int .i64 x.1, .int .u64 x.2, .int .i64 at_, .int .i64 till, .slice ra rd.length rc, .slice wa wl.length wc] 58)).heap[wr.heap.size]? = some (.cells #[.int .i64 x.1, .int .u64 x.2, .int .i64 at_, .int .i64 till, .slice ra rd.length rc, .slice wa wl.length wc] 58)) := heap_alloc_new wr _
          have HX : Hid (Below w1.heap.size w1 (wr.alloc (.cells #[.int .i64 x.1, .int .u64 x.2, .int .i64 at_, .int .i64 till, .slice ra rd.length rc, .slice wa wl.length wc] 58))) := HW.out.trans (bx.mono HW.out.size)
          clear k1 k2 bx
          go_wp2_with fail
          refine q.mono ?_
          rintro e w3 ⟨rfl, hb3⟩
          have HX3 : Hid (Below w1.heap.size w1 w3) := HX.out.trans (hb3.mono HX.out.size)
          have L3 : Hid (w3.heap[wr.heap.size]? = some (.cells #[.int .i64 x.1, .int .u64 x.2, .int .i64 at_, .int .i64 till, .slice ra rd.length rc, .slice wa wl.length wc] 58)) := (hb3.block _ (Array.getElem?_eq_some_iff.1 HL.out).1).trans HL.out
          have f0 : w3.cell? ⟨wr.heap.size, 0, none⟩ = some (.int .i64 x.1) := cell_of_heap L3.out rfl
          have f1 : w3.cell? ⟨wr.heap.size, 1, none⟩ = some (.int .u64 x.2) := cell_of_heap L3.out rfl
          have f5 : w3.cell? ⟨wr.heap.size, 5, none⟩ = some (.slice wa wl.length wc) := cell_of_heap L3.out rfl
          have q2 := contains_any _ wl key w3 (HK2.out.later hb3)
          clear q hb3 d0 d1 d2 d3 d4 d5 HK2 HL
          cases hp : covP n ⟨x, at_, till, rd, wl, .slice ra rd.length rc, .slice wa wl.length wc⟩
          · have HJ2 : Hid (∀ i y, i < j + 1 → H[i]? = some y → isW key n y = false) := next_false HJ.out HSS.out (by rw [isW_eq, hp]; rfl)
            clear hp q2
            go_wp2
            go_roundw
            case rel => exact ⟨_, _, _, _, _, _, _, _, _, _, _, _, _, _, _, _, _, _, ⟨j + 1, by go_num, by omega, HJ2, HX3⟩, rfl⟩
            case measure => simp [intOf]; omega
          · go_wp2_with fail
            refine q2.mono ?_
            rintro e w4 ⟨rfl, hw⟩
            subst hw
            clear q2
            cases hm : inK key wl
            · have HJ2 : Hid (∀ i y, i < j + 1 → H[i]? = some y → isW key n y = false) := next_false HJ.out HSS.out (by rw [isW_eq]; simp only [hm, Bool.and_false])
              clear hp hm
              go_wp2
              go_roundw
              case rel => exact ⟨_, _, _, _, _, _, _, _, _, _, _, _, _, _, _, _, _, _, ⟨j + 1, by go_num, by omega, HJ2, HX3⟩, rfl⟩
              case measure => simp [intOf]; omega
            · have hww : isW key n ⟨x, at_, till, rd, wl, .slice ra rd.length rc, .slice wa wl.length wc⟩ = true := by rw [isW_eq, hp]; simp only [hm, Bool.and_true]
              have HE : Hid (writerS (H ++ F) key n = some x) := by
                rw [Hid, writerS, List.find?_append, find_first HSS.out hww HJ.out]
                rfl
              have n0 : w4.heap[w.heap.size]? = some (.cells #[.int .i64 0, .int .u64 0] 31) := (HX3.out.block _ (Array.getElem?_eq_some_iff.1 HN1.out).1).trans HN1.out
              have n4 : ((w4.setCell ⟨w.heap.size, 0, none⟩ (.int .i64 x.1)).setCell ⟨w.heap.size, 1, none⟩ (.int .u64 x.2)).heap[w.heap.size]? = some (.cells #[.int .i64 x.1, .int .u64 x.2] 31) := two_set1 (two_set0 n0)
              have z0 : w4.cell? ⟨w.heap.size, 0, none⟩ = some (.int .i64 0) := cell_of_heap n0 rfl
              have z1 : w4.cell? ⟨w.heap.size, 1, none⟩ = some (.int .u64 0) := cell_of_heap n0 rfl
              have z2 : w4.frozen? ⟨w.heap.size, 0, none⟩ = false := frozen_of_row _ _ _ _ _ n0
              have z3 : w4.frozen? ⟨w.heap.size, 1, none⟩ = false := frozen_of_row _ _ _ _ _ n0
              have z4 : (w4.setCell ⟨w.heap.size, 0, none⟩ (.int .i64 x.1)).cell? ⟨w.heap.size, 1, none⟩ = some (.int .u64 0) := cell_of_heap (two_set0 n0) rfl
              have z5 : (w4.setCell ⟨w.heap.size, 0, none⟩ (.int .i64 x.1)).frozen? ⟨w.heap.size, 1, none⟩ = false := frozen_of_row _ _ _ _ _ (two_set0 n0)
              have y0 : ((w4.setCell ⟨w.heap.size, 0, none⟩ (.int .i64 x.1)).setCell ⟨w.heap.size, 1, none⟩ (.int .u64 x.2)).cell? ⟨w.heap.size, 0, none⟩ = some (.int .i64 x.1) := cell_of_heap n4 rfl
              have y1 : ((w4.setCell ⟨w.heap.size, 0, none⟩ (.int .i64 x.1)).setCell ⟨w.heap.size, 1, none⟩ (.int .u64 x.2)).cell? ⟨w.heap.size, 1, none⟩ = some (.int .u64 x.2) := cell_of_heap n4 rfl
              have HXF : Hid (Below w.heap.size w ((w4.setCell ⟨w.heap.size, 0, none⟩ (.int .i64 x.1)).setCell ⟨w.heap.size, 1, none⟩ (.int .u64 x.2))) := ((HB1.out.trans (HX3.out.mono HB1.out.size)).setCell (Nat.le_refl _) _).setCell (Nat.le_refl _) _
              clear n0 n4 hp hm hww
              go_wp2
              refine bodyPost_ret (v := .tuple #[.agg #[.int .i64 x.1, .int .u64 x.2], .bool true]) (by simp [results, Try.results15, go_sem, y0, y1]) rfl ?_
              exact ⟨by rw [HE.out]; rfl, HXF.out⟩
        · have HA : Hid (∀ i x, i < H.length → H[i]? = some x → isW key n x = false) := fun i x hi hx => HJ.out i x (by omega) hx
          go_wp2
          go_roundw
          case rel => exact ⟨1, by go_num, by omega, fun _ => HA.out, fun h => by omega, HW⟩
          case measure => simp [intOf]
    · have HNH : Hid (∀ i x, i < H.length → H[i]? = some x → isW key n x = false) := HA0.out (by omega)
      go_wp2
      go_loopw [31] (fun t wx => ∃ j : Nat, t = .int .i64 (j : Nat) ∧ j ≤ F.length ∧ Hid (∀ i x, i < j → F[i]? = some x → isW key n x = false) ∧ Hid (Below w1.heap.size w1 wx)) (fun t _ => F.length - (intOf t).toNat)
      case atStart => exact ⟨0, rfl, by omega, fun i x hi => by omega, HW⟩
      case round =>
        clear HW l0 l1
        obtain ⟨j, rfl, hj, HJ, HW⟩ := hrel
        by_cases hjl : j < F.length
        · have hs : F[j]? = some F[j] := List.getElem?_eq_getElem hjl
          generalize F[j] = s at hs
          obtain ⟨a', c', e, -, -, -, h5⟩ := (HF1.out.later HW.out).at
          simp only [Value.slice.injEq, true_and] at e
          obtain ⟨rfl, rfl⟩ := e
          obtain ⟨b, off, rfl, hcc⟩ := h5 (by omega)
          obtain ⟨ra, rc, wa, wc, e1, e2, k1, k2, d0, d1, d2, d3, d4, d5⟩ := hcc j s hs
          have HSS : Hid (F[j]? = some s) := hs
          clear hcc h5 hs
          obtain ⟨x, at_, till, rd, wl, rv, wv⟩ := s
          simp only at e1 e2
          subst e1 e2
          have bx : Below wr.heap.size wr (wr.alloc (.cells #[.int .i64 x.1, .int .u64 x.2, .int .i64 at_, .int .i64 till, .slice ra rd.length rc, .slice wa wl.length wc] 58)) := (Below.refl _ _).alloc (Nat.le_refl _) _
          have q := covers_any ⟨x, at_, till, rd, wl, .slice ra rd.length rc, .slice wa wl.length wc⟩ n _ (k1.later bx) (k2.later bx)
          have HK2 : Hid (SR (wr.alloc (.cells #[.int .i64 x.1, .int .u64 x.2, .int .i64 at_, .int .i64 till, .slice ra rd.length rc, .slice wa wl.length wc] 58)) (.slice wa wl.length wc) wl) := k2.later bx
          have HL : Hid ((wr.alloc (.cells #[.int .i64 x.1, .int .u64 x.2, .int .i64 at_, .int .i64 till, .slice ra rd.length rc, .slice wa wl.length wc] 58)).heap[wr.heap.size]? = some (.cells #[.int .i64 x.1, .int .u64 x.2, .int .i64 at_, .int .i64 till, .slice ra rd.length rc, .slice wa wl.length wc] 58)) := heap_alloc_new wr _
          have HX : Hid (Below w1.heap.size w1 (wr.alloc (.cells #[.int .i64 x.1, .int .u64 x.2, .int .i64 at_, .int .i64 till, .slice ra rd.length rc, .slice wa wl.length wc] 58))) := HW.out.trans (bx.mono HW.out.size)
          clear k1 k2 bx
          go_wp2_with fail
          refine q.mono ?_
          rintro e w3 ⟨rfl, hb3⟩
          have HX3 : Hid (Below w1.heap.size w1 w3) := HX.out.trans (hb3.mono HX.out.size)
          have L3 : Hid (w3.heap[wr.heap.size]? = some (.cells #[.int .i64 x.1, .int .u64 x.2, .int .i64 at_, .int .i64 till, .slice ra rd.length rc, .slice wa wl.length wc] 58)) := (hb3.block _ (Array.getElem?_eq_some_iff.1 HL.out).1).trans HL.out
          have f0 : w3.cell? ⟨wr.heap.size, 0, none⟩ = some (.int .i64 x.1) := cell_of_heap L3.out rfl
          have f1 : w3.cell? ⟨wr.heap.size, 1, none⟩ = some (.int .u64 x.2) := cell_of_heap L3.out rfl
          have f5 : w3.cell? ⟨wr.heap.size, 5, none⟩ = some (.slice wa wl.length wc) := cell_of_heap L3.out rfl
          have q2 := contains_any _ wl key w3 (HK2.out.later hb3)
          clear q hb3 d0 d1 d2 d3 d4 d5 HK2 HL
          cases hp : covP n ⟨x, at_, till, rd, wl, .slice ra rd.length rc, .slice wa wl.length wc⟩
          · have HJ2 : Hid (∀ i y, i < j + 1 → F[i]? = some y → isW key n y = false) := next_false HJ.out HSS.out (by rw [isW_eq, hp]; rfl)
            clear hp q2
            go_wp2
            go_roundw
            case rel => exact ⟨_, _, _, _, _, _, _, _, _, _, _, _, _, _, _, _, _, _, ⟨j + 1, by go_num, by omega, HJ2, HX3⟩, rfl⟩
            case measure => simp [intOf]; omega
          · go_wp2_with fail
            refine q2.mono ?_
            rintro e w4 ⟨rfl, hw⟩
            subst hw
            clear q2
            cases hm : inK key wl
            · have HJ2 : Hid (∀ i y, i < j + 1 → F[i]? = some y → isW key n y = false) := next_false HJ.out HSS.out (by rw [isW_eq]; simp only [hm, Bool.and_false])
              clear hp hm
              go_wp2
              go_roundw
              case rel => exact ⟨_, _, _, _, _, _, _, _, _, _, _, _, _, _, _, _, _, _, ⟨j + 1, by go_num, by omega, HJ2, HX3⟩, rfl⟩
              case measure => simp [intOf]; omega
            · have hww : isW key n ⟨x, at_, till, rd, wl, .slice ra rd.length rc, .slice wa wl.length wc⟩ = true := by rw [isW_eq, hp]; simp only [hm, Bool.and_true]
              have HE : Hid (writerS (H ++ F) key n = some x) := by
                rw [Hid, writerS, List.find?_append, find_no HNH.out, find_first HSS.out hww HJ.out]
                rfl
              have n0 : w4.heap[w.heap.size]? = some (.cells #[.int .i64 0, .int .u64 0] 31) := (HX3.out.block _ (Array.getElem?_eq_some_iff.1 HN1.out).1).trans HN1.out
              have n4 : ((w4.setCell ⟨w.heap.size, 0, none⟩ (.int .i64 x.1)).setCell ⟨w.heap.size, 1, none⟩ (.int .u64 x.2)).heap[w.heap.size]? = some (.cells #[.int .i64 x.1, .int .u64 x.2] 31) := two_set1 (two_set0 n0)
              have z0 : w4.cell? ⟨w.heap.size, 0, none⟩ = some (.int .i64 0) := cell_of_heap n0 rfl
              have z1 : w4.cell? ⟨w.heap.size, 1, none⟩ = some (.int .u64 0) := cell_of_heap n0 rfl
              have z2 : w4.frozen? ⟨w.heap.size, 0, none⟩ = false := frozen_of_row _ _ _ _ _ n0
              have z3 : w4.frozen? ⟨w.heap.size, 1, none⟩ = false := frozen_of_row _ _ _ _ _ n0
              have z4 : (w4.setCell ⟨w.heap.size, 0, none⟩ (.int .i64 x.1)).cell? ⟨w.heap.size, 1, none⟩ = some (.int .u64 0) := cell_of_heap (two_set0 n0) rfl
              have z5 : (w4.setCell ⟨w.heap.size, 0, none⟩ (.int .i64 x.1)).frozen? ⟨w.heap.size, 1, none⟩ = false := frozen_of_row _ _ _ _ _ (two_set0 n0)
              have y0 : ((w4.setCell ⟨w.heap.size, 0, none⟩ (.int .i64 x.1)).setCell ⟨w.heap.size, 1, none⟩ (.int .u64 x.2)).cell? ⟨w.heap.size, 0, none⟩ = some (.int .i64 x.1) := cell_of_heap n4 rfl
              have y1 : ((w4.setCell ⟨w.heap.size, 0, none⟩ (.int .i64 x.1)).setCell ⟨w.heap.size, 1, none⟩ (.int .u64 x.2)).cell? ⟨w.heap.size, 1, none⟩ = some (.int .u64 x.2) := cell_of_heap n4 rfl
              have HXF : Hid (Below w.heap.size w ((w4.setCell ⟨w.heap.size, 0, none⟩ (.int .i64 x.1)).setCell ⟨w.heap.size, 1, none⟩ (.int .u64 x.2))) := ((HB1.out.trans (HX3.out.mono HB1.out.size)).setCell (Nat.le_refl _) _).setCell (Nat.le_refl _) _
              clear n0 n4 hp hm hww
              go_wp2
              refine bodyPost_ret (v := .tuple #[.agg #[.int .i64 x.1, .int .u64 x.2], .bool true]) (by simp [results, Try.results15, go_sem, y0, y1]) rfl ?_
              exact ⟨by rw [HE.out]; rfl, HXF.out⟩
        · have HA : Hid (∀ i x, i < F.length → F[i]? = some x → isW key n x = false) := fun i x hi hx => HJ.out i x (by omega) hx
          go_wp2
          go_roundw
          case rel => exact ⟨2, by go_num, by omega, fun _ => HNH.out, fun _ => HA.out, HW⟩
          case measure => simp [intOf]
    · have HE : Hid (writerS (H ++ F) key n = none) := by
        rw [Hid, writerS, List.find?_append, find_no (HA0.out (by omega)), find_no (HA1.out (by omega))]
        rfl
      have n0 : wr.heap[w.heap.size]? = some (.cells #[.int .i64 0, .int .u64 0] 31) := (HW.out.block _ (Array.getElem?_eq_some_iff.1 HN1.out).1).trans HN1.out
      have n4 : ((wr.setCell ⟨w.heap.size, 0, none⟩ (.int .i64 0)).setCell ⟨w.heap.size, 1, none⟩ (.int .u64 0)).heap[w.heap.size]? = some (.cells #[.int .i64 0, .int .u64 0] 31) := two_set1 (two_set0 n0)
      have z0 : wr.cell? ⟨w.heap.size, 0, none⟩ = some (.int .i64 0) := cell_of_heap n0 rfl
      have z1 : wr.cell? ⟨w.heap.size, 1, none⟩ = some (.int .u64 0) := cell_of_heap n0 rfl
      have z2 : wr.frozen? ⟨w.heap.size, 0, none⟩ = false := frozen_of_row _ _ _ _ _ n0
      have z3 : wr.frozen? ⟨w.heap.size, 1, none⟩ = false := frozen_of_row _ _ _ _ _ n0
      have z4 : (wr.setCell ⟨w.heap.size, 0, none⟩ (.int .i64 0)).cell? ⟨w.heap.size, 1, none⟩ = some (.int .u64 0) := cell_of_heap (two_set0 n0) rfl
      have z5 : (wr.setCell ⟨w.heap.size, 0, none⟩ (.int .i64 0)).frozen? ⟨w.heap.size, 1, none⟩ = false := frozen_of_row _ _ _ _ _ (two_set0 n0)
      have y0 : ((wr.setCell ⟨w.heap.size, 0, none⟩ (.int .i64 0)).setCell ⟨w.heap.size, 1, none⟩ (.int .u64 0)).cell? ⟨w.heap.size, 0, none⟩ = some (.int .i64 0) := cell_of_heap n4 rfl
      have y1 : ((wr.setCell ⟨w.heap.size, 0, none⟩ (.int .i64 0)).setCell ⟨w.heap.size, 1, none⟩ (.int .u64 0)).cell? ⟨w.heap.size, 1, none⟩ = some (.int .u64 0) := cell_of_heap n4 rfl
      have HXF : Hid (Below w.heap.size w ((wr.setCell ⟨w.heap.size, 0, none⟩ (.int .i64 0)).setCell ⟨w.heap.size, 1, none⟩ (.int .u64 0))) := ((HB1.out.trans (HW.out.mono HB1.out.size)).setCell (Nat.le_refl _) _).setCell (Nat.le_refl _) _
      clear n0 n4 HA0 HA1
      go_wp2
      refine bodyPost_ret (v := .tuple #[.agg #[.int .i64 0, .int .u64 0], .bool false]) (by simp [results, Try.results15, go_sem, y0, y1]) rfl ?_
      exact ⟨by rw [HE.out]; rfl, HXF.out⟩
end Go.Proofs.Ytbhohedkgeokgaa
