/- The document's table: a contract of Take. -/
import Derived.Test.YtbhohedkgeokgaaLkK
namespace Go.Proofs.Ytbhohedkgeokgaa
open Go Go.RowKit
set_option linter.unusedVariables false
set_option linter.unusedSimpArgs false

/-- what the document's Take has done -/
structure RTaken (w' : World) (base g : Nat) (L : List Rw) (last : Int) (id : Id) (a : Int) (rd wr : List ByteArray) : Prop where
  yes : takeR L last id a rd wr = 0 → Rt w' base g (L ++ newRows id a 0 rd wr) a
  no : takeR L last id a rd wr ≠ 0 → Rt w' base g L last
def rowR (id : Id) (a : Int) (w : Bool) (k : ByteArray) : Rw := ⟨id, k, w, a, 0⟩
theorem newRows_eq (id : Id) (a : Int) (rd wr : List ByteArray) : newRows id a 0 rd wr = (⟨id, ⟨#[]⟩, false, a, 0⟩ :: rd.map (rowR id a false)) ++ wr.map (rowR id a true) := rfl
theorem allR_of {l : List ByteArray} (h : ∀ j x, j < l.length → l[j]? = some x → right x = true) : allR l = true := by
  rw [allR, List.all_eq_true]
  intro x hx
  obtain ⟨i, hi⟩ := List.getElem?_of_mem hx
  exact h i x (List.getElem?_eq_some_iff.1 hi).1 hi
theorem allR_not {l : List ByteArray} {k : Nat} {x : ByteArray} (h : l[k]? = some x) (hr : right x = false) : allR l = false := by
  rw [allR, List.all_eq_false]
  exact ⟨x, List.mem_of_getElem? h, by rw [hr]; simp⟩
theorem next_true {p : ByteArray → Bool} {l : List ByteArray} {k : Nat} {x : ByteArray} (h : ∀ j y, j < k → l[j]? = some y → p y = true) (hx : l[k]? = some x) (hp : p x = true) : ∀ j y, j < k + 1 → l[j]? = some y → p y = true := by
  intro j y hj hy
  by_cases e : j = k
  · rw [e, hx] at hy; simp only [Option.some.injEq] at hy; rw [← hy]; exact hp
  · exact h j y (by omega) hy
def busyRQ (L : List Rw) (w : Bool) (k : ByteArray) : Bool := busyR L k w

set_option maxRecDepth 100000 in
set_option maxHeartbeats 8000000 in
theorem rtake_any (base g : Nat) (L : List Rw) (last : Int) (id : Id) (a : Int) (rv wv : Value) (rd wl : List ByteArray) (w : World) (h : Rt w base g L last) (k1 : SR w rv rd) (k2 : SR w wv wl) (hlen : L.length ≤ 100000) (hbase : base ≤ w.heap.size) :
    Calls Try.prog 22 #[.pointer (some ⟨g, 0, none⟩), idv id, .int .i64 a, rv, wv] w fun e w' => e = .returned (.int .i64 (takeR L last id a rd wl)) ∧ RTaken w' base g L last id a rd wl ∧ Fr base [28, 47] w w' := by
  obtain ⟨ra, rc, rfl, -⟩ := k1.slice
  obtain ⟨wa, wc, rfl, -⟩ := k2.slice
  have hrf := k1.few
  have hwf := k2.few
  have hb0 : Below w.heap.size w (w.alloc (.cells #[.int .i64 id.1, .int .u64 id.2] 31)) := (Below.refl _ _).alloc (Nat.le_refl _) _
  have hn := heap_alloc_new w (.cells #[.int .i64 id.1, .int .u64 id.2] 31)
  have HN : Hid ((w.alloc (.cells #[.int .i64 id.1, .int .u64 id.2] 31)).heap[w.heap.size]? = some (.cells #[.int .i64 id.1, .int .u64 id.2] 31)) := hn
  have HT : Hid (Rt (w.alloc (.cells #[.int .i64 id.1, .int .u64 id.2] 31)) base g L last) := h.later hb0
  have HB : Hid (Below w.heap.size w (w.alloc (.cells #[.int .i64 id.1, .int .u64 id.2] 31))) := hb0
  have HR : Hid (SR (w.alloc (.cells #[.int .i64 id.1, .int .u64 id.2] 31)) (.slice ra rd.length rc) rd) := k1.later hb0
  have HW : Hid (SR (w.alloc (.cells #[.int .i64 id.1, .int .u64 id.2] 31)) (.slice wa wl.length wc) wl) := k2.later hb0
  obtain ⟨_, _, -, -, -, c1⟩ := HT.out.cells
  clear h hb0 hn k1 k2
  by_cases hal : a ≤ last
  · have HE : Hid (takeR L last id a rd wl = 1) := by rw [Hid, takeR, if_pos hal]
    go_enter Try.func22, Try.ntmps22
    go_wp2
    go_ret
    exact ⟨by rw [HE.out]; rfl, ⟨fun e => (by rw [HE.out] at e; cases e), fun _ => HT.out⟩, Fr.of HB.out⟩
  have HAL : Hid (last < a) := by show last < a; omega
  clear hal
  generalize hw0 : w.alloc (.cells #[.int .i64 id.1, .int .u64 id.2] 31) = w0 at *
  have hb1 : Below w0.heap.size w0 (w0.alloc (.cells #[.slice ra rd.length rc, .slice wa wl.length wc] 32)) := (Below.refl _ _).alloc (Nat.le_refl _) _
  have hn1 := heap_alloc_new w0 (.cells #[.slice ra rd.length rc, .slice wa wl.length wc] 32)
  have HN1 : Hid ((w0.alloc (.cells #[.slice ra rd.length rc, .slice wa wl.length wc] 32)).heap[w.heap.size]? = some (.cells #[.int .i64 id.1, .int .u64 id.2] 31)) := (hb1.block _ (Array.getElem?_eq_some_iff.1 HN.out).1).trans HN.out
  have HL1 : Hid ((w0.alloc (.cells #[.slice ra rd.length rc, .slice wa wl.length wc] 32)).heap[w0.heap.size]? = some (.cells #[.slice ra rd.length rc, .slice wa wl.length wc] 32)) := hn1
  have HT1 : Hid (Rt (w0.alloc (.cells #[.slice ra rd.length rc, .slice wa wl.length wc] 32)) base g L last) := HT.out.later hb1
  have HB1 : Hid (Below w.heap.size w (w0.alloc (.cells #[.slice ra rd.length rc, .slice wa wl.length wc] 32))) := HB.out.trans (hb1.mono HB.out.size)
  have HR1 : Hid (SR (w0.alloc (.cells #[.slice ra rd.length rc, .slice wa wl.length wc] 32)) (.slice ra rd.length rc) rd) := HR.out.later hb1
  have HW1 : Hid (SR (w0.alloc (.cells #[.slice ra rd.length rc, .slice wa wl.length wc] 32)) (.slice wa wl.length wc) wl) := HW.out.later hb1
  have c1' := cell_later hb1 c1
  have hlt := HAL.out
  clear hb1 hn1 HN HT HB HR HW
  go_enter Try.func22, Try.ntmps22
  go_wp2
  generalize hw1 : (w0.alloc (.cells #[.slice ra rd.length rc, .slice wa wl.length wc] 32)) = w1 at *
  go_loopw [30] (fun t wx => ∃ k : Nat, t = .int .i64 (k : Nat) ∧ k ≤ 2 ∧ Hid (0 < k → allR rd = true) ∧ Hid (1 < k → allR wl = true) ∧ wx = w1) (fun t _ => 2 - (intOf t).toNat)
  case atStart => exact ⟨0, rfl, by omega, fun h => by omega, fun h => by omega, rfl⟩
  case round =>
    obtain ⟨k, rfl, hk, HA0, HA1, hww⟩ := hrel
    obtain rfl := hww.symm
    have l0 : w1.cell? ⟨w0.heap.size, 0, none⟩ = some (.slice ra rd.length rc) := cell_of_heap HL1.out rfl
    have l1 : w1.cell? ⟨w0.heap.size, 1, none⟩ = some (.slice wa wl.length wc) := cell_of_heap HL1.out rfl
    rcases (show k = 0 ∨ k = 1 ∨ k = 2 by omega) with rfl | rfl | rfl
    · 
      go_wp2
      go_loopw [36] (fun t wx => ∃ j : Nat, t = .int .i64 (j : Nat) ∧ j ≤ rd.length ∧ Hid (∀ i x, i < j → rd[i]? = some x → right x = true) ∧ wx = w1) (fun t _ => rd.length - (intOf t).toNat)
      case atStart => exact ⟨0, rfl, by omega, fun i x hi => by omega, rfl⟩
      case round =>
        obtain ⟨j, rfl, hj, HJ, hww⟩ := hrel
        obtain rfl := hww.symm
        by_cases hjl : j < rd.length
        · obtain ⟨b, off, rfl, hc⟩ := HR1.out.at (by omega)
          have d0 := hc j hjl
          clear hc
          have hx : rd[j]? = some (rd[j]?.getD ⟨#[]⟩) := by rw [List.getElem?_eq_getElem hjl]; rfl
          generalize rd[j]?.getD ⟨#[]⟩ = x at d0 hx
          have HX : Hid (rd[j]? = some x) := hx
          have hsz := HR1.out.small x (List.mem_of_getElem? hx)
          have cl := ref_right_any x w1 (by unfold maxLen; omega)
          clear hx hsz
          go_wp2_with fail
          refine cl.mono ?_
          rintro e w' ⟨rfl, hw⟩
          obtain rfl := hw.symm
          clear cl
          cases hp : right x
          · have HE : Hid (takeR L last id a rd wl = 1) := by
              rw [Hid, takeR, if_neg (show ¬ a ≤ last by have := HAL.out; omega), if_pos (by rw [allR_not HX.out hp]; simp)]
            clear hp
            go_wp2
            go_ret
            exact ⟨by rw [HE.out]; rfl, ⟨fun e => (by rw [HE.out] at e; cases e), fun _ => HT1.out⟩, Fr.of HB1.out⟩
          · have HJ2 : Hid (∀ i y, i < j + 1 → rd[i]? = some y → right y = true) := next_true HJ.out HX.out hp
            clear hp
            go_wp2
            go_roundw
            case rel => exact ⟨j + 1, by go_num, by omega, HJ2, trivial⟩
            case measure => simp [intOf]; omega
        · have HA : Hid (allR rd = true) := allR_of (fun i x hi hx => HJ.out i x (by omega) hx)
          go_wp2
          go_roundw
          case rel => exact ⟨1, by go_num, by omega, fun _ => HA.out, fun h => by omega, trivial⟩
          case measure => simp [intOf]
    · have HRD : Hid (allR rd = true) := HA0.out (by omega)
      go_wp2
      go_loopw [36] (fun t wx => ∃ j : Nat, t = .int .i64 (j : Nat) ∧ j ≤ wl.length ∧ Hid (∀ i x, i < j → wl[i]? = some x → right x = true) ∧ wx = w1) (fun t _ => wl.length - (intOf t).toNat)
      case atStart => exact ⟨0, rfl, by omega, fun i x hi => by omega, rfl⟩
      case round =>
        obtain ⟨j, rfl, hj, HJ, hww⟩ := hrel
        obtain rfl := hww.symm
        by_cases hjl : j < wl.length
        · obtain ⟨b, off, rfl, hc⟩ := HW1.out.at (by omega)
          have d0 := hc j hjl
          clear hc
          have hx : wl[j]? = some (wl[j]?.getD ⟨#[]⟩) := by rw [List.getElem?_eq_getElem hjl]; rfl
          generalize wl[j]?.getD ⟨#[]⟩ = x at d0 hx
          have HX : Hid (wl[j]? = some x) := hx
          have hsz := HW1.out.small x (List.mem_of_getElem? hx)
          have cl := ref_right_any x w1 (by unfold maxLen; omega)
          clear hx hsz
          go_wp2_with fail
          refine cl.mono ?_
          rintro e w' ⟨rfl, hw⟩
          obtain rfl := hw.symm
          clear cl
          cases hp : right x
          · have HE : Hid (takeR L last id a rd wl = 1) := by
              rw [Hid, takeR, if_neg (show ¬ a ≤ last by have := HAL.out; omega), if_pos (by rw [allR_not HX.out hp]; simp)]
            clear hp
            go_wp2
            go_ret
            exact ⟨by rw [HE.out]; rfl, ⟨fun e => (by rw [HE.out] at e; cases e), fun _ => HT1.out⟩, Fr.of HB1.out⟩
          · have HJ2 : Hid (∀ i y, i < j + 1 → wl[i]? = some y → right y = true) := next_true HJ.out HX.out hp
            clear hp
            go_wp2
            go_roundw
            case rel => exact ⟨j + 1, by go_num, by omega, HJ2, trivial⟩
            case measure => simp [intOf]; omega
        · have HA : Hid (allR wl = true) := allR_of (fun i x hi hx => HJ.out i x (by omega) hx)
          go_wp2
          go_roundw
          case rel => exact ⟨2, by go_num, by omega, fun _ => HRD.out, fun _ => HA.out, trivial⟩
          case measure => simp [intOf]
    · have HRD : Hid (allR rd = true) := HA0.out (by omega)
      have HWR : Hid (allR wl = true) := HA1.out (by omega)
      clear HA0 HA1 l0 l1 hk
      have HE1 : Hid (takeR L last id a rd wl = if holdsR L id = true then 7 else if (rd.any (busyR L · false) || wl.any (busyR L · true)) = true then 11 else 0) := by
        rw [Hid, takeR, if_neg (show ¬ a ≤ last by have := HAL.out; omega), if_neg (by rw [HRD.out, HWR.out]; simp)]
      clear HRD HWR
      have p0 : w1.cell? ⟨w.heap.size, 0, none⟩ = some (.int .i64 id.1) := cell_of_heap HN1.out rfl
      have p1 : w1.cell? ⟨w.heap.size, 1, none⟩ = some (.int .u64 id.2) := cell_of_heap HN1.out rfl
      have q3 := rholds_any base g L last id _ HT1.out hlen
      go_wp2_with fail
      refine q3.mono ?_
      rintro e w2 ⟨rfl, hb1⟩
      have HN2 : Hid (w2.heap[w.heap.size]? = some (.cells #[.int .i64 id.1, .int .u64 id.2] 31)) := (hb1.block _ (Array.getElem?_eq_some_iff.1 HN1.out).1).trans HN1.out
      have HT2 : Hid (Rt w2 base g L last) := HT1.out.later hb1
      have HB2 : Hid (Below w.heap.size w w2) := HB1.out.trans (hb1.mono HB1.out.size)
      have HR2 : Hid (SR w2 (.slice ra rd.length rc) rd) := HR1.out.later hb1
      have HW2 : Hid (SR w2 (.slice wa wl.length wc) wl) := HW1.out.later hb1
      clear q3 hb1 HN1 HT1 HB1 HR1 HW1 p0 p1 HL1 c1'
      cases hr : holdsR L id
      rotate_left
      · have HE : Hid (takeR L last id a rd wl = 7) := by rw [Hid, HE1.out, if_pos hr]
        clear hr
        go_wp2
        go_ret
        exact ⟨by rw [HE.out]; rfl, ⟨fun e => (by rw [HE.out] at e; cases e), fun _ => HT2.out⟩, Fr.of HB2.out⟩
      have HE2 : Hid (takeR L last id a rd wl = if (rd.any (busyRQ L false) || wl.any (busyRQ L true)) = true then 11 else 0) := by
        rw [hr] at HE1
        exact HE1
      clear hr HE1
      have p0 : w2.cell? ⟨w.heap.size, 0, none⟩ = some (.int .i64 id.1) := cell_of_heap HN2.out rfl
      have p1 : w2.cell? ⟨w.heap.size, 1, none⟩ = some (.int .u64 id.2) := cell_of_heap HN2.out rfl
      have HV0 : Hid ((w2.alloc (.cells #[.int .i64 id.1, .int .u64 id.2, .string ⟨#[]⟩, .bool false, .int .i64 a, .int .i64 0] 47)).ownsRow w2.heap.size 47 6 (.slice (some ⟨w2.heap.size, 0, none⟩) 1 1) 1 ([⟨id, ⟨#[]⟩, false, a, 0⟩].flatMap Rw.cells)) := ⟨rfl, .inr ⟨w2.heap.size, 1, _, rfl, Nat.le_refl _, heap_alloc_new w2 _, Nat.le_refl _, by unfold maxLen; omega, rfl, rfl⟩⟩
      have HX0 : Hid (Below w2.heap.size w2 (w2.alloc (.cells #[.int .i64 id.1, .int .u64 id.2, .string ⟨#[]⟩, .bool false, .int .i64 a, .int .i64 0] 47))) := (Below.refl _ _).alloc (Nat.le_refl _) _
      go_wp2
      generalize w2.alloc (.cells #[.int .i64 id.1, .int .u64 id.2, .string ⟨#[]⟩, .bool false, .int .i64 a, .int .i64 0] 47) = w9 at *
      clear p0 p1
      go_loopw [15, 54] (fun v t wx => ∃ k : Nat, t = .int .i64 (k : Nat) ∧ k ≤ rd.length ∧ Hid (wx.ownsRow w2.heap.size 47 6 v (⟨id, ⟨#[]⟩, false, a, 0⟩ :: (rd.take k).map (rowR id a false)).length ((⟨id, ⟨#[]⟩, false, a, 0⟩ :: (rd.take k).map (rowR id a false)).flatMap Rw.cells)) ∧ Hid (∀ i x, i < k → rd[i]? = some x → busyRQ L false x = false) ∧ Hid (Below w2.heap.size w2 wx)) (fun _ t _ => rd.length - (intOf t).toNat)
      case atStart => exact ⟨0, rfl, by omega, HV0, fun i x hi => by omega, HX0⟩
      case round =>
        obtain ⟨k, rfl, hk, HV, HK, HX2⟩ := hrel
        by_cases hkl : k < rd.length
        · obtain ⟨b, off, rfl, hc⟩ := (HR2.out.later HX2.out).at (by omega)
          have d0 := hc k hkl
          clear hc
          have hx : rd[k]? = some (rd[k]?.getD ⟨#[]⟩) := by rw [List.getElem?_eq_getElem hkl]; rfl
          generalize rd[k]?.getD ⟨#[]⟩ = x at d0 hx
          have HXX : Hid (rd[k]? = some x) := hx
          have hlk : (⟨id, ⟨#[]⟩, false, a, 0⟩ :: (rd.take k).map (rowR id a false)).length ≤ 100 := by simp; omega
          have HRR : Hid (⟨id, ⟨#[]⟩, false, a, 0⟩ :: (rd.take (k + 1)).map (rowR id a false) = ⟨id, ⟨#[]⟩, false, a, 0⟩ :: (rd.take k).map (rowR id a false) ++ [⟨id, x, false, a, 0⟩]) := by
            rw [Hid, take_map (rowR id a false) hx]
            simp [rowR]
          have cl := rbusy_any base g L last x false _ (HT2.out.later HX2.out) hlen
          clear hx
          go_wp2_with fail
          refine cl.mono ?_
          rintro e w3 ⟨rfl, hb3⟩
          have HX3 : Hid (Below w2.heap.size w2 w3) := HX2.out.trans (hb3.mono HX2.out.size)
          have HV3 : Hid (w3.ownsRow w2.heap.size 47 6 u15 (⟨id, ⟨#[]⟩, false, a, 0⟩ :: (rd.take k).map (rowR id a false)).length ((⟨id, ⟨#[]⟩, false, a, 0⟩ :: (rd.take k).map (rowR id a false)).flatMap Rw.cells)) := owns_later HV.out hb3
          have g3 := (HX3.out.block _ (Array.getElem?_eq_some_iff.1 HN2.out).1).trans HN2.out
          have p0 : w3.cell? ⟨w.heap.size, 0, none⟩ = some (.int .i64 id.1) := cell_of_heap g3 rfl
          have p1 : w3.cell? ⟨w.heap.size, 1, none⟩ = some (.int .u64 id.2) := cell_of_heap g3 rfl
          clear cl hb3 d0 g3 HV
          cases hp : busyR L x false
          rotate_left
          · have HE : Hid (takeR L last id a rd wl = 11) := by
              rw [Hid, HE2.out, if_pos]
              rw [any_true_of (p := busyRQ L false) HXX.out hp, Bool.true_or]
            clear hp
            go_wp2
            go_ret
            exact ⟨by rw [HE.out]; rfl, ⟨fun e => (by rw [HE.out] at e; cases e), fun _ => HT2.out.later HX3.out⟩, Fr.of (HB2.out.trans (HX3.out.mono HB2.out.size))⟩
          · have HK2 : Hid (∀ i y, i < k + 1 → rd[i]? = some y → busyRQ L false y = false) := next_false HK.out HXX.out hp
            clear hp
            have hg4 := heap_alloc_new w3 (.cells #[.int .i64 id.1, .int .u64 id.2, .string x, .bool false, .int .i64 a, .int .i64 0] 47)
            have hb4 : Below w3.heap.size w3 (w3.alloc (.cells #[.int .i64 id.1, .int .u64 id.2, .string x, .bool false, .int .i64 a, .int .i64 0] 47)) := (Below.refl _ _).alloc (Nat.le_refl _) _
            have HV4 := owns_later HV3.out hb4
            have hc4 := news_one Rw.cells ⟨id, x, false, a, 0⟩ hg4 rfl
            have HX4 : Hid (Below w2.heap.size w2 (w3.alloc (.cells #[.int .i64 id.1, .int .u64 id.2, .string x, .bool false, .int .i64 a, .int .i64 0] 47))) := HX3.out.trans (hb4.mono HX3.out.size)
            clear hb4 hg4
            go_wp2_with (at_builtin; refine wp_append_els Rw.cells 6 56 26 47 _ Try.underlying26 Try.info_47 rfl (by decide) (fun _ => rfl) (by decide) rfl _ _ rfl w2.heap.size _ _ rfl HV4 _ 1 1 [⟨id, x, false, a, 0⟩] rfl rfl hc4 (Rw.one _) (by decide) (by omega) HX4.out.size ?_; intro v5 w5 ho5 hg5 hv5)
            go_roundw
            case rel => exact ⟨k + 1, by go_num, by omega, by rw [HRR.out]; exact ho5, HK2, HX4.out.grown hg5 HX4.out.size (fun q hq => (World.ownsRow.lt HV4 q hq).1)⟩
            case measure => simp [intOf]; omega
        · have HNB : Hid (rd.any (busyRQ L false) = false) := any_false_of (fun i x hi hx => HK.out i x (by omega) hx)
          have hkk : rd.take k = rd := List.take_of_length_le (by omega)
          rw [hkk] at HV
          clear hkk
          go_wp2
          go_loopw [15, 71] (fun v t wx => ∃ k : Nat, t = .int .i64 (k : Nat) ∧ k ≤ wl.length ∧ Hid (wx.ownsRow w2.heap.size 47 6 v ((⟨id, ⟨#[]⟩, false, a, 0⟩ :: rd.map (rowR id a false)) ++ (wl.take k).map (rowR id a true)).length (((⟨id, ⟨#[]⟩, false, a, 0⟩ :: rd.map (rowR id a false)) ++ (wl.take k).map (rowR id a true)).flatMap Rw.cells)) ∧ Hid (∀ i x, i < k → wl[i]? = some x → busyRQ L true x = false) ∧ Hid (Below w2.heap.size w2 wx)) (fun _ t _ => wl.length - (intOf t).toNat)
          case atStart => exact ⟨0, rfl, by omega, by simpa using HV, fun i x hi => by omega, HX2⟩
          case round =>
            obtain ⟨k, rfl, hk, HV, HK, HX2⟩ := hrel
            by_cases hkl : k < wl.length
            · obtain ⟨b, off, rfl, hc⟩ := (HW2.out.later HX2.out).at (by omega)
              have d0 := hc k hkl
              clear hc
              have hx : wl[k]? = some (wl[k]?.getD ⟨#[]⟩) := by rw [List.getElem?_eq_getElem hkl]; rfl
              generalize wl[k]?.getD ⟨#[]⟩ = x at d0 hx
              have HXX : Hid (wl[k]? = some x) := hx
              have hlk : ((⟨id, ⟨#[]⟩, false, a, 0⟩ :: rd.map (rowR id a false)) ++ (wl.take k).map (rowR id a true)).length ≤ 100 := by simp; omega
              have HRR : Hid ((⟨id, ⟨#[]⟩, false, a, 0⟩ :: rd.map (rowR id a false)) ++ (wl.take (k + 1)).map (rowR id a true) = (⟨id, ⟨#[]⟩, false, a, 0⟩ :: rd.map (rowR id a false)) ++ (wl.take k).map (rowR id a true) ++ [⟨id, x, true, a, 0⟩]) := by
                rw [Hid, take_map (rowR id a true) hx]
                simp [rowR]
              have cl := rbusy_any base g L last x true _ (HT2.out.later HX2.out) hlen
              clear hx
              go_wp2_with fail
              refine cl.mono ?_
              rintro e w3 ⟨rfl, hb3⟩
              have HX3 : Hid (Below w2.heap.size w2 w3) := HX2.out.trans (hb3.mono HX2.out.size)
              have HV3 : Hid (w3.ownsRow w2.heap.size 47 6 u15 ((⟨id, ⟨#[]⟩, false, a, 0⟩ :: rd.map (rowR id a false)) ++ (wl.take k).map (rowR id a true)).length (((⟨id, ⟨#[]⟩, false, a, 0⟩ :: rd.map (rowR id a false)) ++ (wl.take k).map (rowR id a true)).flatMap Rw.cells)) := owns_later HV.out hb3
              have g3 := (HX3.out.block _ (Array.getElem?_eq_some_iff.1 HN2.out).1).trans HN2.out
              have p0 : w3.cell? ⟨w.heap.size, 0, none⟩ = some (.int .i64 id.1) := cell_of_heap g3 rfl
              have p1 : w3.cell? ⟨w.heap.size, 1, none⟩ = some (.int .u64 id.2) := cell_of_heap g3 rfl
              clear cl hb3 d0 g3 HV
              cases hp : busyR L x true
              rotate_left
              · have HE : Hid (takeR L last id a rd wl = 11) := by
                  rw [Hid, HE2.out, if_pos]
                  rw [any_true_of (p := busyRQ L true) HXX.out hp, Bool.or_true]
                clear hp
                go_wp2
                go_ret
                exact ⟨by rw [HE.out]; rfl, ⟨fun e => (by rw [HE.out] at e; cases e), fun _ => HT2.out.later HX3.out⟩, Fr.of (HB2.out.trans (HX3.out.mono HB2.out.size))⟩
              · have HK2 : Hid (∀ i y, i < k + 1 → wl[i]? = some y → busyRQ L true y = false) := next_false HK.out HXX.out hp
                clear hp
                have hg4 := heap_alloc_new w3 (.cells #[.int .i64 id.1, .int .u64 id.2, .string x, .bool true, .int .i64 a, .int .i64 0] 47)
                have hb4 : Below w3.heap.size w3 (w3.alloc (.cells #[.int .i64 id.1, .int .u64 id.2, .string x, .bool true, .int .i64 a, .int .i64 0] 47)) := (Below.refl _ _).alloc (Nat.le_refl _) _
                have HV4 := owns_later HV3.out hb4
                have hc4 := news_one Rw.cells ⟨id, x, true, a, 0⟩ hg4 rfl
                have HX4 : Hid (Below w2.heap.size w2 (w3.alloc (.cells #[.int .i64 id.1, .int .u64 id.2, .string x, .bool true, .int .i64 a, .int .i64 0] 47))) := HX3.out.trans (hb4.mono HX3.out.size)
                clear hb4 hg4
                go_wp2_with (at_builtin; refine wp_append_els Rw.cells 6 56 26 47 _ Try.underlying26 Try.info_47 rfl (by decide) (fun _ => rfl) (by decide) rfl _ _ rfl w2.heap.size _ _ rfl HV4 _ 1 1 [⟨id, x, true, a, 0⟩] rfl rfl hc4 (Rw.one _) (by decide) (by omega) HX4.out.size ?_; intro v5 w5 ho5 hg5 hv5)
                go_roundw
                case rel => exact ⟨k + 1, by go_num, by omega, by rw [HRR.out]; exact ho5, HK2, HX4.out.grown hg5 HX4.out.size (fun q hq => (World.ownsRow.lt HV4 q hq).1)⟩
                case measure => simp [intOf]; omega
            · have HNB2 : Hid (wl.any (busyRQ L true) = false) := any_false_of (fun i x hi hx => HK.out i x (by omega) hx)
              have hkk : wl.take k = wl := List.take_of_length_le (by omega)
              rw [hkk] at HV
              have HE : Hid (takeR L last id a rd wl = 0) := by rw [Hid, HE2.out, HNB.out, HNB2.out]; rfl
              have HVN : Hid (wr.ownsRow w2.heap.size 47 6 u15 (newRows id a 0 rd wl).length ((newRows id a 0 rd wl).flatMap Rw.cells)) := HV
              clear hkk HV HNB HNB2 HK
              obtain ⟨va, vc, t1, t2, c0, -⟩ := (HT2.out.later HX2.out).cells
              have hnl := newRows_length id a 0 rd wl
              obtain ⟨g5, cap5, cur5, e5, -⟩ : ∃ g cap cur, u15 = .slice (some ⟨g, 0, none⟩) (newRows id a 0 rd wl).length cap ∧ wr.heap[g]? = some (.cells cur 47 (0, 0)) := by
                rcases HVN.out.2 with ⟨_, hz⟩ | ⟨q1, q2, q3, q4, _, q6, _⟩
                · omega
                · exact ⟨q1, q2, q3, q4, q6⟩
              subst e5
              have hc5 := World.ownsRow.cells HVN.out (g := g5) rfl
              have HOK : Hid (∀ v6 w6, w6.ownsRow base 47 6 v6 (L ++ newRows id a 0 rd wl).length ((L ++ newRows id a 0 rd wl).flatMap Rw.cells) → wr.grownBy w6 (Value.slice va L.length vc).ownBlock → (w6.heap[g]? = some (.cells #[.slice va L.length vc, .int .i64 last] 28 (0, 0)) ∧ Rt ((w6.setCell ⟨g, 0, none⟩ v6).setCell ⟨g, 1, none⟩ (.int .i64 a)) base g (L ++ newRows id a 0 rd wl) a ∧ Fr base [28, 47] w ((w6.setCell ⟨g, 0, none⟩ v6).setCell ⟨g, 1, none⟩ (.int .i64 a)))) := by
                intro v6 w6 ho6 hg6
                have hown : ∀ k, (Value.slice va L.length vc).ownBlock = some k → base ≤ k ∧ tagOf wr k = some 47 := by
                  intro k hk
                  rcases t2.2 with ⟨e, _⟩ | ⟨q1, q2, q3, q4, q5, q6, _⟩
                  · rw [e] at hk; cases hk
                  · rw [q4] at hk
                    simp only [Value.ownBlock, Option.some.injEq] at hk
                    subst hk
                    exact ⟨q5, tagOf_heap q6⟩
                have f1 : Fr base [28, 47] wr w6 := Fr.grown hg6 (fun k hk => ⟨(hown k hk).1, 47, by simp, (hown k hk).2⟩)
                have g6 : w6.heap[g]? = some (.cells #[.slice va L.length vc, .int .i64 last] 28 (0, 0)) := (hg6.block g (Array.getElem?_eq_some_iff.1 t1).1 (fun e => by have := (hown g e.symm).2; rw [tagOf_heap t1] at this; cases this)).trans t1
                obtain ⟨r1, r2⟩ := Rt.put (a := a) HT2.out.lo g6 ho6
                exact ⟨g6, r1, ((Fr.of (HB2.out.trans (HX2.out.mono HB2.out.size))).trans f1).trans r2⟩
              have hbs : base ≤ wr.heap.size := by have := HX2.out.size; have := HB2.out.size; omega
              clear t1 HT2 HX2 HN2 HB2 HR2 HW2 HVN
              go_wp2_with (at_builtin; refine wp_append_els Rw.cells 6 56 26 47 _ Try.underlying26 Try.info_47 rfl (by decide) (fun _ => rfl) (by decide) rfl _ _ rfl base _ L rfl t2 ⟨g5, 0, none⟩ (newRows id a 0 rd wl).length cap5 (newRows id a 0 rd wl) rfl rfl hc5 (Rw.one _) (by omega) (by omega) hbs ?_; intro v6 w6 ho6 hg6 hv6; obtain ⟨qa, qn, qc, rfl⟩ := owns_slice ho6; have hok := HOK.out _ w6 ho6 hg6; have HTF : Hid (Rt ((w6.setCell ⟨g, 0, none⟩ (.slice qa qn qc)).setCell ⟨g, 1, none⟩ (.int .i64 a)) base g (L ++ newRows id a 0 rd wl) a ∧ Fr base [28, 47] w ((w6.setCell ⟨g, 0, none⟩ (.slice qa qn qc)).setCell ⟨g, 1, none⟩ (.int .i64 a))) := hok.2; have z0 : w6.cell? ⟨g, 0, none⟩ = some (.slice va L.length vc) := cell_of_heap hok.1 rfl; have z1 : w6.frozen? ⟨g, 0, none⟩ = false := frozen_of_row w6 _ _ _ _ hok.1; have z2 : (w6.setCell ⟨g, 0, none⟩ (.slice qa qn qc)).cell? ⟨g, 1, none⟩ = some (.int .i64 last) := cell_of_heap (two_set0 hok.1) rfl; have z3 : (w6.setCell ⟨g, 0, none⟩ (.slice qa qn qc)).frozen? ⟨g, 1, none⟩ = false := frozen_of_row _ _ _ _ _ (two_set0 hok.1); clear hok ho6 hg6 hv6 hc5 t2 HOK)
              go_ret
              exact ⟨by rw [HE.out]; rfl, ⟨fun _ => HTF.out.1, fun e => absurd HE.out e⟩, HTF.out.2⟩
end Go.Proofs.Ytbhohedkgeokgaa
