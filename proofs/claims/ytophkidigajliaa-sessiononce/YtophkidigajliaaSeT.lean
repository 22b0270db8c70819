/- The document's table of slots: a contract of Len. -/
import Derived.Test.YtophkidigajliaaSeS
namespace Go.Proofs.Ytophkidigajliaa
open Go Go.RowKit
set_option linter.unusedVariables false
set_option linter.unusedSimpArgs false

def seen (L : Log) (k : Nat) (c : Int) : Bool := (L.take k).any (fun x => decide (x.1 = c))
theorem seen_next {L : Log} {k : Nat} {x : Sl} (h : L[k]? = some x) (c : Int) : seen L (k + 1) c = (seen L k c || decide (x.1 = c)) := by
  unfold seen
  rw [take_next h, List.any_append]
  simp
theorem cntTo_next {L : Log} {k : Nat} {x : Sl} (h : L[k]? = some x) : cntTo L (k + 1) = cntTo L k + if seen L k x.1 = true then 0 else 1 := by
  rw [cntTo, h]
  rfl
set_option maxRecDepth 100000 in
set_option maxHeartbeats 2000000 in
theorem rlen_any (base g : Nat) (L : Log) (w : World) (h : Rt w base g L) (hlen : L.length ≤ 100000) :
    Calls Try.prog 13 #[.pointer (some ⟨g, 0, none⟩)] w fun e w' => e = .returned (.int .i64 (cnt L : Nat)) ∧ Below w.heap.size w w' := by
  obtain ⟨a, cc, -, h2, c0⟩ := h.cells
  have hcap : L.length ≤ cc ∧ cc ≤ maxLen := by
    obtain ⟨_, _, e, h3, h4, -⟩ := rows_at h2
    simp only [Value.slice.injEq, true_and] at e
    obtain ⟨rfl, rfl⟩ := e
    exact ⟨h3, h4⟩
  have hc1 := hcap.1
  have hc2 := hcap.2
  unfold maxLen at hc2
  have HO : Hid (w.ownsRow base 54 6 (.slice a L.length cc) L.length (L.flatMap rcells)) := h2
  have HC : Hid (w.cell? ⟨g, 0, none⟩ = some (.slice a L.length cc)) := c0
  have HCN : Hid (∀ k, cntTo L k ≤ k) := cntTo_le L
  clear h h2 hcap
  go_enter Try.func13, Try.ntmps13
  go_wp2
  clear c0
  go_loopw [3, 14] (fun n t wr => ∃ k : Nat, t = .int .i64 (k : Nat) ∧ k ≤ L.length ∧ n = .int .i64 (cntTo L k : Nat) ∧ Hid (Below w.heap.size w wr)) (fun _ t _ => L.length - (intOf t).toNat)
  case atStart => exact ⟨0, rfl, by omega, rfl, Below.refl _ _⟩
  case round =>
    obtain ⟨k, rfl, hk, rfl, HW⟩ := hrel
    by_cases hlt : k < L.length
    · obtain ⟨a', c', e, -, -, -, h5⟩ := rows_at (HO.out)
      simp only [Value.slice.injEq, true_and] at e
      obtain ⟨rfl, rfl⟩ := e
      obtain ⟨b, off, rfl, hc⟩ := h5 (by omega)
      have HCC : Hid (∀ i r, L[i]? = some r → w.cell? ⟨b, off + i * 6, none⟩ = some (.int .i64 r.1) ∧ w.cell? ⟨b, off + i * 6 + 1, none⟩ = some (.int .u64 r.2.seq) ∧ w.cell? ⟨b, off + i * 6 + 2, none⟩ = some (.bool r.2.opn) ∧ w.cell? ⟨b, off + i * 6 + 3, none⟩ = some (.int .i64 r.2.at_) ∧ w.cell? ⟨b, off + i * 6 + 4, none⟩ = some (.int .i64 r.2.code) ∧ w.cell? ⟨b, off + i * 6 + 5, none⟩ = some (.int .u64 r.2.num)) := hc
      clear hc h5
      have hr : L[k]? = some L[k] := List.getElem?_eq_getElem hlt
      generalize L[k] = r at hr
      obtain ⟨d0, d1, d2, d3, d4, d5⟩ := HCC.out k r hr
      have d0 := (HW.out.cell (World.block_lt_of_cell? _ _ d0)).trans d0
      have d1 := (HW.out.cell (World.block_lt_of_cell? _ _ d1)).trans d1
      have d2 := (HW.out.cell (World.block_lt_of_cell? _ _ d2)).trans d2
      have d3 := (HW.out.cell (World.block_lt_of_cell? _ _ d3)).trans d3
      have d4 := (HW.out.cell (World.block_lt_of_cell? _ _ d4)).trans d4
      have d5 := (HW.out.cell (World.block_lt_of_cell? _ _ d5)).trans d5
      have HN : Hid (cntTo L (k + 1) = cntTo L k + if seen L k r.1 = true then 0 else 1) := cntTo_next hr
      clear hr
      obtain ⟨x, q, o, t, cd, n⟩ := r
      simp only at d0 d1 d2 d3 d4 d5
      have HX : Hid (Below w.heap.size w (wr.alloc (.cells (rarr (x, ⟨q, o, t, cd, n⟩)) 54))) := HW.out.alloc HW.out.size _
      have HXX : Hid ((wr.alloc (.cells (rarr (x, ⟨q, o, t, cd, n⟩)) 54)).heap[wr.heap.size]? = some (.cells (rarr (x, ⟨q, o, t, cd, n⟩)) 54)) := heap_alloc_new wr _
      go_upto_region 5 with fail
      clear d0 d1 d2 d3 d4 d5
      generalize wr.alloc (.cells (rarr (x, ⟨q, o, t, cd, n⟩)) 54) = w1 at *
      generalize wr.heap.size = p1 at *
      have c0 := (HX.out.cell (World.block_lt_of_cell? _ _ HC.out)).trans HC.out
      go_wp2
      clear c0
      go_loopw [6, 26] (fun f t2 wi => ∃ j : Nat, t2 = .int .i64 (j : Nat) ∧ j ≤ k ∧ f = .bool (!seen L j x) ∧ Hid (Below w1.heap.size w1 wi)) (fun _ t2 _ => k - (intOf t2).toNat)
      case atStart => exact ⟨0, rfl, by omega, rfl, Below.refl _ _⟩
      case round =>
        obtain ⟨j, rfl, hj, rfl, HV⟩ := hrel
        by_cases hjl : j < k
        · have hr : L[j]? = some L[j] := List.getElem?_eq_getElem (by omega)
          generalize L[j] = r at hr
          obtain ⟨d0, d1, d2, d3, d4, d5⟩ := HCC.out j r hr
          have HXV := HX.out.trans (HV.out.mono HX.out.size)
          have d0 := (HXV.cell (World.block_lt_of_cell? _ _ d0)).trans d0
          have d1 := (HXV.cell (World.block_lt_of_cell? _ _ d1)).trans d1
          have d2 := (HXV.cell (World.block_lt_of_cell? _ _ d2)).trans d2
          have d3 := (HXV.cell (World.block_lt_of_cell? _ _ d3)).trans d3
          have d4 := (HXV.cell (World.block_lt_of_cell? _ _ d4)).trans d4
          have d5 := (HXV.cell (World.block_lt_of_cell? _ _ d5)).trans d5
          have HS : Hid (seen L (j + 1) x = (seen L j x || decide (r.1 = x))) := seen_next hr x
          clear hr
          obtain ⟨y, q2, o2, t2, cd2, n2⟩ := r
          simp only at d0 d1 d2 d3 d4 d5
          have s0 : wr.cell? ⟨p1, 0, none⟩ = some (.int .i64 x) := cell_of_heap (keep_cells HV.out HXX.out) rfl
          have hsw : p1 < wr.heap.size := (Array.getElem?_eq_some_iff.1 (keep_cells HV.out HXX.out)).1
          have HV2 : Hid (Below w1.heap.size w1 (wr.alloc (.cells (rarr (y, ⟨q2, o2, t2, cd2, n2⟩)) 54))) := HV.out.alloc HV.out.size _
          clear HXV
          cases hf : seen L j x
          · by_cases he : y = x
            · have HS2 : Hid (seen L (j + 1) x = true) := by rw [Hid, HS.out]; simp [he]
              subst he
              clear hf
              go_wp2
              go_roundw
              case rel => exact ⟨j + 1, by go_num, by omega, by rw [HS2.out]; rfl, HV2⟩
              case measure => simp [intOf]; omega
            · have HS2 : Hid (seen L (j + 1) x = false) := by rw [Hid, HS.out, hf]; simp [he]
              have hb : (y == x) = false := by simp [he]
              have hb2 : (y != x) = true := by simp [he]
              clear hf he
              go_wp2
              go_roundw
              case rel => exact ⟨j + 1, by go_num, by omega, by rw [HS2.out]; rfl, HV2⟩
              case measure => simp [intOf]; omega
          · have HS2 : Hid (seen L (j + 1) x = true) := by rw [Hid, HS.out, hf]; rfl
            clear hf
            go_wp2
            go_roundw
            case rel => exact ⟨j + 1, by go_num, by omega, by rw [HS2.out]; rfl, HV2⟩
            case measure => simp [intOf]; omega
        · have hjk : j = k := by omega
          subst hjk
          have HXV : Hid (Below w.heap.size w wr) := HX.out.trans (HV.out.mono HX.out.size)
          have hcn := HCN.out j
          cases hf : seen L j x
          · have HN2 : Hid (cntTo L (j + 1) = cntTo L j + 1) := by rw [Hid, HN.out, hf]; rfl
            clear hf
            go_wp2
            go_roundw
            case rel => exact ⟨j + 1, by go_num, by omega, by rw [HN2.out]; go_num, HXV⟩
            case measure => simp [intOf]; omega
          · have HN2 : Hid (cntTo L (j + 1) = cntTo L j) := by rw [Hid, HN.out, hf]; rfl
            clear hf
            go_wp2
            go_roundw
            case rel => exact ⟨j + 1, by go_num, by omega, by rw [HN2.out], HXV⟩
            case measure => simp [intOf]; omega
    · have hk : k = L.length := by omega
      subst hk
      go_wp2
      go_ret
      exact ⟨rfl, HW.out⟩
end Go.Proofs.Ytophkidigajliaa
