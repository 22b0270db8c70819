/- The document's word on a transaction: a contract. -/
import Derived.Test.YtlefaicdcomkjaaEnF
namespace Go.Proofs.Ytlefaicdcomkjaa
open Go Go.RowKit
set_option linter.unusedVariables false
set_option linter.unusedSimpArgs false

theorem nextV {l : List Wrv} {k : Nat} {x : Wrv} (h : ∀ j y, j < k → l[j]? = some y → rval1 y = true) (hx : l[k]? = some x) (hp : rval1 x = true) : ∀ j y, j < k + 1 → l[j]? = some y → rval1 y = true := by
  intro j y hj hy
  by_cases e : j = k
  · rw [e, hx] at hy; simp only [Option.some.injEq] at hy; rw [← hy]; exact hp
  · exact h j y (by omega) hy
theorem rcounts_iff (plain : Bool) (n m : Nat) : rcounts plain n m = true ↔ 0 < n + m ∧ n ≤ 8 ∧ m ≤ 8 ∧ (plain = true → n = 0 ∧ m = 1) := by
  unfold rcounts
  cases plain
  · simp
  · simp only [if_true, decide_eq_true_eq]
    constructor
    · rintro ⟨rfl, rfl⟩; simp
    · intro h; exact h.2.2.2 trivial
set_option maxRecDepth 100000 in
set_option maxHeartbeats 16000000 in
theorem ref_rightTxn_any (id : Id) (plain : Bool) (b1 : Nat) (v1 v2 : Value) (l1 : List Rdv) (l2 : List Wrv) (w : World) (h1 : w.ownsRow b1 99 2 v1 l1.length (l1.flatMap Rdv.cells)) (h2 : w.ownsRow b1 100 3 v2 l2.length (l2.flatMap Wrv.cells)) (hid : 0 ≤ id.2) (hl1 : l1.length ≤ 10) (hl2 : l2.length ≤ 10) (hs1 : ∀ x ∈ l1, x.key.size ≤ maxLen) (hs2 : ∀ x ∈ l2, x.key.size ≤ maxLen ∧ x.val.size ≤ maxLen) :
    Calls Try.prog 51 #[.agg #[.int .i64 id.1, .int .u64 id.2, .bool plain, v1, v2]] w fun e w' => e = .returned (.bool (rtxn id plain l1 l2)) ∧ Below w.heap.size w w' := by
  obtain ⟨_, _, e1, hcr, hcm, -⟩ := owns_at Rdv.cells 2 (fun _ => rfl) h1
  obtain ⟨_, _, e2, hcw, hcn, -⟩ := owns_at Wrv.cells 3 (fun _ => rfl) h2
  obtain ⟨ra, rc, rfl, hR⟩ := owns_rds h1 ⟨⟨#[]⟩, 0⟩
  obtain ⟨wa, wc, rfl, hW⟩ := owns_wrs h2 ⟨⟨#[]⟩, ⟨#[]⟩, false⟩
  simp only [Value.slice.injEq, true_and] at e1 e2
  obtain ⟨-, rfl⟩ := e1
  obtain ⟨-, rfl⟩ := e2
  have HRds : Hid (Rds w ra l1.length (fun i => l1[i]?.getD ⟨⟨#[]⟩, 0⟩)) := hR
  have HWrs : Hid (Wrs w wa l2.length (fun i => l2[i]?.getD ⟨⟨#[]⟩, ⟨#[]⟩, false⟩)) := hW
  have HSKR : Hid (∀ x ∈ l1, x.key.size ≤ maxLen) := hs1
  have HSKW : Hid (∀ x ∈ l2, x.key.size ≤ maxLen ∧ x.val.size ≤ maxLen) := hs2
  have b0 : Below w.heap.size w (w.alloc (.cells #[.int .i64 id.1, .int .u64 id.2, .bool plain, .slice ra l1.length rc, .slice wa l2.length wc] 52)) := (Below.refl _ _).alloc (Nat.le_refl _) _
  have HB0 : Hid (Below w.heap.size w (w.alloc (.cells #[.int .i64 id.1, .int .u64 id.2, .bool plain, .slice ra l1.length rc, .slice wa l2.length wc] 52))) := b0
  have HN : Hid ((w.alloc (.cells #[.int .i64 id.1, .int .u64 id.2, .bool plain, .slice ra l1.length rc, .slice wa l2.length wc] 52)).heap[w.heap.size]? = some (.cells #[.int .i64 id.1, .int .u64 id.2, .bool plain, .slice ra l1.length rc, .slice wa l2.length wc] 52)) := heap_alloc_new w _
  have q := ref_rightID_any id (w.alloc (.cells #[.int .i64 id.1, .int .u64 id.2, .bool plain, .slice ra l1.length rc, .slice wa l2.length wc] 52)) hid
  clear h1 h2 hR hW hs1 hs2 b0
  go_enter Try.func51, Try.ntmps51
  go_wp2_with fail
  refine q.mono ?_
  rintro e w1 ⟨rfl, hb1⟩
  have HB : Hid (Below w.heap.size w w1) := HB0.out.trans (hb1.mono HB0.out.size)
  have HBX : Hid (w1.heap[w.heap.size]? = some (.cells #[.int .i64 id.1, .int .u64 id.2, .bool plain, .slice ra l1.length rc, .slice wa l2.length wc] 52)) := (hb1.block _ (Array.getElem?_eq_some_iff.1 HN.out).1).trans HN.out
  have a2 : w1.cell? ⟨w.heap.size, 2, none⟩ = some (.bool plain) := cell_of_heap HBX.out rfl
  have a3 : w1.cell? ⟨w.heap.size, 3, none⟩ = some (.slice ra l1.length rc) := cell_of_heap HBX.out rfl
  have a4 : w1.cell? ⟨w.heap.size, 4, none⟩ = some (.slice wa l2.length wc) := cell_of_heap HBX.out rfl
  clear q hb1 HN HB0
  cases hri : rid id
  · have HE : Hid (rtxn id plain l1 l2 = false) := by rw [Hid]; simp only [rtxn, hri, Bool.false_and]
    clear hri
    go_wp2
    go_ret
    exact ⟨by rw [HE.out]; rfl, HB.out⟩
  have HRI : Hid (rid id = true) := hri
  clear hri
  have hspec := rcounts_iff plain l1.length l2.length
  cases hrc : rcounts plain l1.length l2.length
  · have HE : Hid (rtxn id plain l1 l2 = false) := by rw [Hid]; simp only [rtxn, hrc, Bool.and_false, Bool.false_and]
    by_cases g1 : 8 < l1.length
    · clear hrc
      go_wp2
      go_ret
      exact ⟨by rw [HE.out]; rfl, HB.out⟩
    by_cases g2 : 8 < l2.length
    · clear hrc
      go_wp2
      go_ret
      exact ⟨by rw [HE.out]; rfl, HB.out⟩
    by_cases g3 : l1.length + l2.length = 0
    · have hb : (((l1.length : Int) + (l2.length : Int)) == 0) = true := by simp only [beq_iff_eq]; omega
      clear hrc g3
      go_wp2
      go_ret
      exact ⟨by rw [HE.out]; rfl, HB.out⟩
    have hb : (((l1.length : Int) + (l2.length : Int)) == 0) = false := by simp only [beq_eq_false_iff_ne, ne_eq]; omega
    cases plain
    · exfalso
      rw [hrc] at hspec
      simp only [Bool.false_eq_true, false_iff, false_implies, and_true, not_and] at hspec
      exact absurd (hspec (by omega) (by omega)) (by omega)
    · by_cases g4 : 0 < l1.length
      · clear hrc
        go_wp2
        go_ret
        exact ⟨by rw [HE.out]; rfl, HB.out⟩
      · have hb2 : ((l2.length : Int) != 1) = true := by
          rw [hrc] at hspec
          have : ¬ l2.length = 1 := fun e => by
            have := hspec.2 ⟨by omega, by omega, by omega, fun _ => ⟨by omega, e⟩⟩
            cases this
          simp only [bne_iff_ne, ne_eq]
          omega
        clear hrc
        go_wp2
        go_ret
        exact ⟨by rw [HE.out]; rfl, HB.out⟩
  have HRC : Hid (rcounts plain l1.length l2.length = true) := hrc
  have g1 : ¬ 8 < l1.length := by have := hspec.1 hrc; omega
  have g2 : ¬ 8 < l2.length := by have := hspec.1 hrc; omega
  have hb : (((l1.length : Int) + (l2.length : Int)) == 0) = false := by
    have := hspec.1 hrc
    simp only [beq_eq_false_iff_ne, ne_eq]
    omega
  have main : ∀ wz, wz = w1 → True := fun _ _ => trivial
  clear main
  cases plain
  · clear hrc hspec
    go_wp2
    go_loopw [54] (fun t wr => ∃ k : Nat, t = .int .i64 (k : Nat) ∧ k ≤ l1.length ∧ Hid (GoodK (l1.map Rdv.key) k) ∧ Hid (wr.heap[w.heap.size]? = some (.cells #[.int .i64 id.1, .int .u64 id.2, .bool false, .slice ra l1.length rc, .slice wa l2.length wc] 52)) ∧ Hid (Below w.heap.size w wr)) (fun t _ => l1.length - (intOf t).toNat)
    case atStart => exact ⟨0, rfl, by omega, fun i x hi => by omega, HBX, HB⟩
    case round =>
      clear HBX HB
      obtain ⟨k, rfl, hk, HK, HBX, HB⟩ := hrel
      have t3 : wr.cell? ⟨w.heap.size, 3, none⟩ = some (.slice ra l1.length rc) := cell_of_heap HBX.out rfl
      by_cases hlt : k < l1.length
      · obtain ⟨b, off, hra, hc⟩ := (HRds.out.later HB.out).at (by omega)
        obtain ⟨d0, d1⟩ := hc k hlt
        clear hc
        have hx : l1[k]? = some (l1[k]?.getD ⟨⟨#[]⟩, 0⟩) := by rw [List.getElem?_eq_getElem hlt]; rfl
        generalize l1[k]?.getD ⟨⟨#[]⟩, 0⟩ = x at d0 d1 hx
        have hsz := HSKR.out x (List.mem_of_getElem? hx)
        obtain ⟨xk, xn⟩ := x
        simp only at d0 d1 hsz
        have HXm : Hid (l1[k]? = some ⟨xk, xn⟩) := hx
        have HXk : Hid ((l1.map Rdv.key)[k]? = some xk) := by rw [Hid, List.getElem?_map, hx]; rfl
        have bxx : Below wr.heap.size wr (wr.alloc (.cells #[.string xk, .int .u64 xn] 99)) := (Below.refl _ _).alloc (Nat.le_refl _) _
        have HXX : Hid ((wr.alloc (.cells #[.string xk, .int .u64 xn] 99)).heap[wr.heap.size]? = some (.cells #[.string xk, .int .u64 xn] 99)) := heap_alloc_new wr _
        have HBY : Hid ((wr.alloc (.cells #[.string xk, .int .u64 xn] 99)).heap[w.heap.size]? = some (.cells #[.int .i64 id.1, .int .u64 id.2, .bool false, .slice ra l1.length rc, .slice wa l2.length wc] 52)) := (bxx.block _ (Array.getElem?_eq_some_iff.1 HBX.out).1).trans HBX.out
        have HB1 : Hid (Below w.heap.size w (wr.alloc (.cells #[.string xk, .int .u64 xn] 99))) := HB.out.trans (bxx.mono HB.out.size)
        have hkc : k ≤ rc := by omega
        have hwl : w.heap.size < wr.heap.size := (Array.getElem?_eq_some_iff.1 HBX.out).1
        clear hx bxx
        subst hra
        go_wp2
        generalize wr.alloc (.cells #[.string xk, .int .u64 xn] 99) = wi at *
        generalize wr.heap.size = bx at *
        clear d0 d1 t3 hwl
        go_loopw [64] (fun t wr => ∃ j : Nat, t = .int .i64 (j : Nat) ∧ j ≤ k ∧ Hid (∀ i y, i < j → (l1.map Rdv.key)[i]? = some y → y ≠ xk) ∧ Hid (wr.heap[bx]? = some (.cells #[.string xk, .int .u64 xn] 99)) ∧ Hid (wr.heap[w.heap.size]? = some (.cells #[.int .i64 id.1, .int .u64 id.2, .bool false, .slice (some ⟨b, off, none⟩) l1.length rc, .slice wa l2.length wc] 52)) ∧ Hid (Below w.heap.size w wr)) (fun t _ => k - (intOf t).toNat)
        case atStart => exact ⟨0, rfl, by omega, fun i x hi => by omega, HXX, HBY, HB1⟩
        case round =>
          clear HXX HBY HB1
          obtain ⟨j, rfl, hj, HJ, HXX, HBY, HB1⟩ := hrel
          have x0 : wr.cell? ⟨bx, 0, none⟩ = some (.string xk) := cell_of_heap HXX.out rfl
          have hbx : bx < wr.heap.size := (Array.getElem?_eq_some_iff.1 HXX.out).1
          by_cases hjl : j < k
          · obtain ⟨b2, off2, e2, hc⟩ := (HRds.out.later HB1.out).at (by omega)
            simp only [Option.some.injEq, Addr.mk.injEq] at e2
            obtain ⟨rfl, rfl, -⟩ := e2
            obtain ⟨d0, d1⟩ := hc j (by omega)
            clear hc
            have hy : l1[j]? = some (l1[j]?.getD ⟨⟨#[]⟩, 0⟩) := by rw [List.getElem?_eq_getElem (by omega)]; rfl
            generalize l1[j]?.getD ⟨⟨#[]⟩, 0⟩ = y at d0 d1 hy
            obtain ⟨yk, yn⟩ := y
            simp only at d0 d1
            have HYk : Hid ((l1.map Rdv.key)[j]? = some yk) := by rw [Hid, List.getElem?_map, hy]; rfl
            have bxx : Below wr.heap.size wr (wr.alloc (.cells #[.string yk, .int .u64 yn] 99)) := (Below.refl _ _).alloc (Nat.le_refl _) _
            have HX2 : Hid ((wr.alloc (.cells #[.string yk, .int .u64 yn] 99)).heap[bx]? = some (.cells #[.string xk, .int .u64 xn] 99)) := (bxx.block _ (Array.getElem?_eq_some_iff.1 HXX.out).1).trans HXX.out
            have HY2 := (bxx.block _ (Array.getElem?_eq_some_iff.1 HBY.out).1).trans HBY.out
            have HYY : Hid (_ = _) := HY2
            have HB2 : Hid (Below w.heap.size w (wr.alloc (.cells #[.string yk, .int .u64 yn] 99))) := HB1.out.trans (bxx.mono HB1.out.size)
            clear hy bxx HY2
            by_cases he : yk = xk
            · have hbe : (yk.toList == xk.toList) = true := by simp [he]
              have HE : Hid (rtxn id false l1 l2 = false) := by
                have hgB : goodB [] (l1.map Rdv.key) = false := goodB_twice HXk.out hjl (by rw [← he]; exact HYk.out)
                rw [Hid]
                simp only [rtxn, hgB, Bool.and_false, Bool.false_and]
              clear he
              go_wp2
              go_ret
              exact ⟨by rw [HE.out]; rfl, HB2.out⟩
            · have hbe : (yk.toList == xk.toList) = false := by rw [key_eq]; simp [he]
              have HJ2 : Hid (∀ i y, i < j + 1 → (l1.map Rdv.key)[i]? = some y → y ≠ xk) := fun i y hi hy => by
                by_cases e : i = j
                · rw [e, HYk.out] at hy; simp only [Option.some.injEq] at hy; rw [← hy]; exact he
                · exact HJ.out i y (by omega) hy
              clear he
              go_wp2
              go_roundw
              case rel => exact ⟨j + 1, by go_num, by omega, HJ2, HX2, HYY, HB2⟩
              case measure => simp [intOf]; omega
          · obtain rfl : k = j := by omega
            have q := ref_right_any xk wr hsz
            go_wp2_with fail
            refine q.mono ?_
            rintro e w2 ⟨rfl, hw⟩
            subst hw
            clear q
            have HXX2 := HXX
            have HBY2 := HBY
            have HB2 := HB1
            cases hr : right xk
            · have HE : Hid (rtxn id false l1 l2 = false) := by
                have hgB : goodB [] (l1.map Rdv.key) = false := goodB_wrong HXk.out hr
                rw [Hid]
                simp only [rtxn, hgB, Bool.and_false, Bool.false_and]
              clear hr
              go_wp2
              go_ret
              exact ⟨by rw [HE.out]; rfl, HB2.out⟩
            · have HK2 : Hid (GoodK (l1.map Rdv.key) (k + 1)) := HK.out.next HXk.out hr HJ.out
              clear hr
              go_wp2
              go_roundw
              case rel => exact ⟨k + 1, by go_num, by omega, HK2, HBY2, HB2⟩
              case measure => simp [intOf]; omega
      · have HG1 : Hid (goodB [] (l1.map Rdv.key) = true) := goodB_all (by rw [List.length_map]; rw [show l1.length = k by omega]; exact HK.out)
        have t4 : wr.cell? ⟨w.heap.size, 4, none⟩ = some (.slice wa l2.length wc) := cell_of_heap HBX.out rfl
        clear HK t3
        go_wp2
        clear t4
        generalize wr = wm at *
        go_loopw [82] (fun t wr => ∃ k : Nat, t = .int .i64 (k : Nat) ∧ k ≤ l2.length ∧ Hid (GoodK (l2.map Wrv.key) k) ∧ Hid (wr.heap[w.heap.size]? = some (.cells #[.int .i64 id.1, .int .u64 id.2, .bool false, .slice ra l1.length rc, .slice wa l2.length wc] 52)) ∧ Hid (Below w.heap.size w wr) ∧ Hid (∀ j x, j < k → l2[j]? = some x → rval1 x = true)) (fun t _ => l2.length - (intOf t).toNat)
        case atStart => exact ⟨0, rfl, by omega, fun i x hi => by omega, HBX, HB, fun i x hi => by omega⟩
        case round =>
          clear HBX HB
          obtain ⟨k, rfl, hk, HK, HBX, HB, HVK⟩ := hrel
          have t3 : wr.cell? ⟨w.heap.size, 4, none⟩ = some (.slice wa l2.length wc) := cell_of_heap HBX.out rfl
          by_cases hlt : k < l2.length
          · obtain ⟨b, off, hra, hc⟩ := (HWrs.out.later HB.out).at (by omega)
            obtain ⟨d0, d1, d2⟩ := hc k hlt
            clear hc
            have hx : l2[k]? = some (l2[k]?.getD ⟨⟨#[]⟩, ⟨#[]⟩, false⟩) := by rw [List.getElem?_eq_getElem hlt]; rfl
            generalize l2[k]?.getD ⟨⟨#[]⟩, ⟨#[]⟩, false⟩ = x at d0 d1 d2 hx
            have hsz := HSKW.out x (List.mem_of_getElem? hx)
            obtain ⟨xk, xv, xg⟩ := x
            simp only at d0 d1 d2 hsz
            obtain ⟨hsz, hszv⟩ := hsz
            have HXm : Hid (l2[k]? = some ⟨xk, xv, xg⟩) := hx
            have HXk : Hid ((l2.map Wrv.key)[k]? = some xk) := by rw [Hid, List.getElem?_map, hx]; rfl
            have bxx : Below wr.heap.size wr (wr.alloc (.cells #[.string xk, .string xv, .bool xg] 100)) := (Below.refl _ _).alloc (Nat.le_refl _) _
            have HXX : Hid ((wr.alloc (.cells #[.string xk, .string xv, .bool xg] 100)).heap[wr.heap.size]? = some (.cells #[.string xk, .string xv, .bool xg] 100)) := heap_alloc_new wr _
            have HBY : Hid ((wr.alloc (.cells #[.string xk, .string xv, .bool xg] 100)).heap[w.heap.size]? = some (.cells #[.int .i64 id.1, .int .u64 id.2, .bool false, .slice ra l1.length rc, .slice wa l2.length wc] 52)) := (bxx.block _ (Array.getElem?_eq_some_iff.1 HBX.out).1).trans HBX.out
            have HB1 : Hid (Below w.heap.size w (wr.alloc (.cells #[.string xk, .string xv, .bool xg] 100))) := HB.out.trans (bxx.mono HB.out.size)
            have hkc : k ≤ wc := by omega
            have hwl : w.heap.size < wr.heap.size := (Array.getElem?_eq_some_iff.1 HBX.out).1
            clear hx bxx
            subst hra
            go_wp2
            generalize wr.alloc (.cells #[.string xk, .string xv, .bool xg] 100) = wi at *
            generalize wr.heap.size = bx at *
            clear d0 d1 d2 t3 hwl
            go_loopw [92] (fun t wr => ∃ j : Nat, t = .int .i64 (j : Nat) ∧ j ≤ k ∧ Hid (∀ i y, i < j → (l2.map Wrv.key)[i]? = some y → y ≠ xk) ∧ Hid (wr.heap[bx]? = some (.cells #[.string xk, .string xv, .bool xg] 100)) ∧ Hid (wr.heap[w.heap.size]? = some (.cells #[.int .i64 id.1, .int .u64 id.2, .bool false, .slice ra l1.length rc, .slice (some ⟨b, off, none⟩) l2.length wc] 52)) ∧ Hid (Below w.heap.size w wr)) (fun t _ => k - (intOf t).toNat)
            case atStart => exact ⟨0, rfl, by omega, fun i x hi => by omega, HXX, HBY, HB1⟩
            case round =>
              clear HXX HBY HB1
              obtain ⟨j, rfl, hj, HJ, HXX, HBY, HB1⟩ := hrel
              have x0 : wr.cell? ⟨bx, 0, none⟩ = some (.string xk) := cell_of_heap HXX.out rfl
              have hbx : bx < wr.heap.size := (Array.getElem?_eq_some_iff.1 HXX.out).1
              by_cases hjl : j < k
              · obtain ⟨b2, off2, e2, hc⟩ := (HWrs.out.later HB1.out).at (by omega)
                simp only [Option.some.injEq, Addr.mk.injEq] at e2
                obtain ⟨rfl, rfl, -⟩ := e2
                obtain ⟨d0, d1, d2⟩ := hc j (by omega)
                clear hc
                have hy : l2[j]? = some (l2[j]?.getD ⟨⟨#[]⟩, ⟨#[]⟩, false⟩) := by rw [List.getElem?_eq_getElem (by omega)]; rfl
                generalize l2[j]?.getD ⟨⟨#[]⟩, ⟨#[]⟩, false⟩ = y at d0 d1 d2 hy
                obtain ⟨yk, yv, yg⟩ := y
                simp only at d0 d1 d2
                have HYk : Hid ((l2.map Wrv.key)[j]? = some yk) := by rw [Hid, List.getElem?_map, hy]; rfl
                have bxx : Below wr.heap.size wr (wr.alloc (.cells #[.string yk, .string yv, .bool yg] 100)) := (Below.refl _ _).alloc (Nat.le_refl _) _
                have HX2 : Hid ((wr.alloc (.cells #[.string yk, .string yv, .bool yg] 100)).heap[bx]? = some (.cells #[.string xk, .string xv, .bool xg] 100)) := (bxx.block _ (Array.getElem?_eq_some_iff.1 HXX.out).1).trans HXX.out
                have HY2 := (bxx.block _ (Array.getElem?_eq_some_iff.1 HBY.out).1).trans HBY.out
                have HYY : Hid (_ = _) := HY2
                have HB2 : Hid (Below w.heap.size w (wr.alloc (.cells #[.string yk, .string yv, .bool yg] 100))) := HB1.out.trans (bxx.mono HB1.out.size)
                clear hy bxx HY2
                by_cases he : yk = xk
                · have hbe : (yk.toList == xk.toList) = true := by simp [he]
                  have HE : Hid (rtxn id false l1 l2 = false) := by
                    have hgB : goodB [] (l2.map Wrv.key) = false := goodB_twice HXk.out hjl (by rw [← he]; exact HYk.out)
                    rw [Hid]
                    simp only [rtxn, hgB, Bool.and_false, Bool.false_and]
                  clear he
                  go_wp2
                  go_ret
                  exact ⟨by rw [HE.out]; rfl, HB2.out⟩
                · have hbe : (yk.toList == xk.toList) = false := by rw [key_eq]; simp [he]
                  have HJ2 : Hid (∀ i y, i < j + 1 → (l2.map Wrv.key)[i]? = some y → y ≠ xk) := fun i y hi hy => by
                    by_cases e : i = j
                    · rw [e, HYk.out] at hy; simp only [Option.some.injEq] at hy; rw [← hy]; exact he
                    · exact HJ.out i y (by omega) hy
                  clear he
                  go_wp2
                  go_roundw
                  case rel => exact ⟨j + 1, by go_num, by omega, HJ2, HX2, HYY, HB2⟩
                  case measure => simp [intOf]; omega
              · obtain rfl : k = j := by omega
                have q := ref_right_any xk wr hsz
                go_wp2_with fail
                refine q.mono ?_
                rintro e w2 ⟨rfl, hw⟩
                subst hw
                clear q
                have HXX2 := HXX
                have HBY2 := HBY
                have HB2 := HB1
                cases hr : right xk
                · have HE : Hid (rtxn id false l1 l2 = false) := by
                    have hgB : goodB [] (l2.map Wrv.key) = false := goodB_wrong HXk.out hr
                    rw [Hid]
                    simp only [rtxn, hgB, Bool.and_false, Bool.false_and]
                  clear hr
                  go_wp2
                  go_ret
                  exact ⟨by rw [HE.out]; rfl, HB2.out⟩
                · have HK2 : Hid (GoodK (l2.map Wrv.key) (k + 1)) := HK.out.next HXk.out hr HJ.out
                  clear hr
                  have q2 := ref_rightVal_any xv w2 hszv
                  have e1 : w2.cell? ⟨bx, 1, none⟩ = some (.string xv) := cell_of_heap HXX2.out rfl
                  have e2 : w2.cell? ⟨bx, 2, none⟩ = some (.bool xg) := cell_of_heap HXX2.out rfl
                  go_wp2_with fail
                  refine q2.mono ?_
                  rintro e w3 ⟨rfl, hw⟩
                  subst hw
                  clear q2
                  cases hv : rightVal xv
                  · have HE : Hid (rtxn id false l1 l2 = false) := by
                      have : l2.all rval1 = false := List.all_eq_false.2 ⟨_, List.mem_of_getElem? HXm.out, by simp [rval1, hv]⟩
                      rw [Hid, rtxn, this, Bool.and_false]
                    clear hv
                    go_wp2
                    go_ret
                    exact ⟨by rw [HE.out]; rfl, HB2.out⟩
                  · cases xg
                    · have HV2 : Hid (∀ j x, j < k + 1 → l2[j]? = some x → rval1 x = true) := nextV HVK.out HXm.out (by simp [rval1, hv])
                      clear hv
                      go_wp2
                      go_roundw
                      case rel => exact ⟨k + 1, by go_num, by omega, HK2, HBY2, HB2, HV2⟩
                      case measure => simp [intOf]; omega
                    · by_cases hz : xv = ⟨#[]⟩
                      · have hbz : (xv.toList == []) = true := by rw [none_eq]; simp [hz]
                        have HV2 : Hid (∀ j x, j < k + 1 → l2[j]? = some x → rval1 x = true) := nextV HVK.out HXm.out (by unfold rval1; simp only [hv]; simp [hz])
                        clear hv hz
                        go_wp2
                        go_roundw
                        case rel => exact ⟨k + 1, by go_num, by omega, HK2, HBY2, HB2, HV2⟩
                        case measure => simp [intOf]; omega
                      · have hbz : (xv.toList == []) = false := by rw [none_eq]; simp [hz]
                        have HE : Hid (rtxn id false l1 l2 = false) := by
                          have : l2.all rval1 = false := List.all_eq_false.2 ⟨_, List.mem_of_getElem? HXm.out, by simp [rval1, hv, hz]⟩
                          rw [Hid, rtxn, this, Bool.and_false]
                        clear hv hz
                        go_wp2
                        go_ret
                        exact ⟨by rw [HE.out]; rfl, HB2.out⟩
          · have HG2 : Hid (goodB [] (l2.map Wrv.key) = true) := goodB_all (by rw [List.length_map]; rw [show l2.length = k by omega]; exact HK.out)
            have HV2 : Hid (l2.all rval1 = true) := List.all_eq_true.2 (fun x hx => by
              obtain ⟨i, hi⟩ := List.getElem?_of_mem hx
              exact HVK.out i x (by have := (List.getElem?_eq_some_iff.1 hi).1; omega) hi)
            have HE : Hid (rtxn id false l1 l2 = true) := by rw [Hid, rtxn, HRI.out, HRC.out, HG1.out, HG2.out, HV2.out]; rfl
            clear HK HVK
            go_wp2
            go_ret
            exact ⟨by rw [HE.out]; rfl, HB.out⟩
  · have g45 := (hspec.1 hrc).2.2.2 rfl
    have g4 : ¬ 0 < l1.length := by omega
    have hb2 : ((l2.length : Int) != 1) = false := by simp only [bne_eq_false_iff_eq]; omega
    clear hrc g45 hspec
    go_wp2
    go_loopw [54] (fun t wr => ∃ k : Nat, t = .int .i64 (k : Nat) ∧ k ≤ l1.length ∧ Hid (GoodK (l1.map Rdv.key) k) ∧ Hid (wr.heap[w.heap.size]? = some (.cells #[.int .i64 id.1, .int .u64 id.2, .bool true, .slice ra l1.length rc, .slice wa l2.length wc] 52)) ∧ Hid (Below w.heap.size w wr)) (fun t _ => l1.length - (intOf t).toNat)
    case atStart => exact ⟨0, rfl, by omega, fun i x hi => by omega, HBX, HB⟩
    case round =>
      clear HBX HB
      obtain ⟨k, rfl, hk, HK, HBX, HB⟩ := hrel
      have t3 : wr.cell? ⟨w.heap.size, 3, none⟩ = some (.slice ra l1.length rc) := cell_of_heap HBX.out rfl
      by_cases hlt : k < l1.length
      · exfalso
        omega
      · have HG1 : Hid (goodB [] (l1.map Rdv.key) = true) := goodB_all (by rw [List.length_map]; rw [show l1.length = k by omega]; exact HK.out)
        have t4 : wr.cell? ⟨w.heap.size, 4, none⟩ = some (.slice wa l2.length wc) := cell_of_heap HBX.out rfl
        clear HK t3
        go_wp2
        clear t4
        generalize wr = wm at *
        go_loopw [82] (fun t wr => ∃ k : Nat, t = .int .i64 (k : Nat) ∧ k ≤ l2.length ∧ Hid (GoodK (l2.map Wrv.key) k) ∧ Hid (wr.heap[w.heap.size]? = some (.cells #[.int .i64 id.1, .int .u64 id.2, .bool true, .slice ra l1.length rc, .slice wa l2.length wc] 52)) ∧ Hid (Below w.heap.size w wr) ∧ Hid (∀ j x, j < k → l2[j]? = some x → rval1 x = true)) (fun t _ => l2.length - (intOf t).toNat)
        case atStart => exact ⟨0, rfl, by omega, fun i x hi => by omega, HBX, HB, fun i x hi => by omega⟩
        case round =>
          clear HBX HB
          obtain ⟨k, rfl, hk, HK, HBX, HB, HVK⟩ := hrel
          have t3 : wr.cell? ⟨w.heap.size, 4, none⟩ = some (.slice wa l2.length wc) := cell_of_heap HBX.out rfl
          by_cases hlt : k < l2.length
          · obtain ⟨b, off, hra, hc⟩ := (HWrs.out.later HB.out).at (by omega)
            obtain ⟨d0, d1, d2⟩ := hc k hlt
            clear hc
            have hx : l2[k]? = some (l2[k]?.getD ⟨⟨#[]⟩, ⟨#[]⟩, false⟩) := by rw [List.getElem?_eq_getElem hlt]; rfl
            generalize l2[k]?.getD ⟨⟨#[]⟩, ⟨#[]⟩, false⟩ = x at d0 d1 d2 hx
            have hsz := HSKW.out x (List.mem_of_getElem? hx)
            obtain ⟨xk, xv, xg⟩ := x
            simp only at d0 d1 d2 hsz
            obtain ⟨hsz, hszv⟩ := hsz
            have HXm : Hid (l2[k]? = some ⟨xk, xv, xg⟩) := hx
            have HXk : Hid ((l2.map Wrv.key)[k]? = some xk) := by rw [Hid, List.getElem?_map, hx]; rfl
            have bxx : Below wr.heap.size wr (wr.alloc (.cells #[.string xk, .string xv, .bool xg] 100)) := (Below.refl _ _).alloc (Nat.le_refl _) _
            have HXX : Hid ((wr.alloc (.cells #[.string xk, .string xv, .bool xg] 100)).heap[wr.heap.size]? = some (.cells #[.string xk, .string xv, .bool xg] 100)) := heap_alloc_new wr _
            have HBY : Hid ((wr.alloc (.cells #[.string xk, .string xv, .bool xg] 100)).heap[w.heap.size]? = some (.cells #[.int .i64 id.1, .int .u64 id.2, .bool true, .slice ra l1.length rc, .slice wa l2.length wc] 52)) := (bxx.block _ (Array.getElem?_eq_some_iff.1 HBX.out).1).trans HBX.out
            have HB1 : Hid (Below w.heap.size w (wr.alloc (.cells #[.string xk, .string xv, .bool xg] 100))) := HB.out.trans (bxx.mono HB.out.size)
            have hkc : k ≤ wc := by omega
            have hwl : w.heap.size < wr.heap.size := (Array.getElem?_eq_some_iff.1 HBX.out).1
            clear hx bxx
            subst hra
            go_wp2
            generalize wr.alloc (.cells #[.string xk, .string xv, .bool xg] 100) = wi at *
            generalize wr.heap.size = bx at *
            clear d0 d1 d2 t3 hwl
            go_loopw [92] (fun t wr => ∃ j : Nat, t = .int .i64 (j : Nat) ∧ j ≤ k ∧ Hid (∀ i y, i < j → (l2.map Wrv.key)[i]? = some y → y ≠ xk) ∧ Hid (wr.heap[bx]? = some (.cells #[.string xk, .string xv, .bool xg] 100)) ∧ Hid (wr.heap[w.heap.size]? = some (.cells #[.int .i64 id.1, .int .u64 id.2, .bool true, .slice ra l1.length rc, .slice (some ⟨b, off, none⟩) l2.length wc] 52)) ∧ Hid (Below w.heap.size w wr)) (fun t _ => k - (intOf t).toNat)
            case atStart => exact ⟨0, rfl, by omega, fun i x hi => by omega, HXX, HBY, HB1⟩
            case round =>
              clear HXX HBY HB1
              obtain ⟨j, rfl, hj, HJ, HXX, HBY, HB1⟩ := hrel
              have x0 : wr.cell? ⟨bx, 0, none⟩ = some (.string xk) := cell_of_heap HXX.out rfl
              have hbx : bx < wr.heap.size := (Array.getElem?_eq_some_iff.1 HXX.out).1
              by_cases hjl : j < k
              · obtain ⟨b2, off2, e2, hc⟩ := (HWrs.out.later HB1.out).at (by omega)
                simp only [Option.some.injEq, Addr.mk.injEq] at e2
                obtain ⟨rfl, rfl, -⟩ := e2
                obtain ⟨d0, d1, d2⟩ := hc j (by omega)
                clear hc
                have hy : l2[j]? = some (l2[j]?.getD ⟨⟨#[]⟩, ⟨#[]⟩, false⟩) := by rw [List.getElem?_eq_getElem (by omega)]; rfl
                generalize l2[j]?.getD ⟨⟨#[]⟩, ⟨#[]⟩, false⟩ = y at d0 d1 d2 hy
                obtain ⟨yk, yv, yg⟩ := y
                simp only at d0 d1 d2
                have HYk : Hid ((l2.map Wrv.key)[j]? = some yk) := by rw [Hid, List.getElem?_map, hy]; rfl
                have bxx : Below wr.heap.size wr (wr.alloc (.cells #[.string yk, .string yv, .bool yg] 100)) := (Below.refl _ _).alloc (Nat.le_refl _) _
                have HX2 : Hid ((wr.alloc (.cells #[.string yk, .string yv, .bool yg] 100)).heap[bx]? = some (.cells #[.string xk, .string xv, .bool xg] 100)) := (bxx.block _ (Array.getElem?_eq_some_iff.1 HXX.out).1).trans HXX.out
                have HY2 := (bxx.block _ (Array.getElem?_eq_some_iff.1 HBY.out).1).trans HBY.out
                have HYY : Hid (_ = _) := HY2
                have HB2 : Hid (Below w.heap.size w (wr.alloc (.cells #[.string yk, .string yv, .bool yg] 100))) := HB1.out.trans (bxx.mono HB1.out.size)
                clear hy bxx HY2
                by_cases he : yk = xk
                · have hbe : (yk.toList == xk.toList) = true := by simp [he]
                  have HE : Hid (rtxn id true l1 l2 = false) := by
                    have hgB : goodB [] (l2.map Wrv.key) = false := goodB_twice HXk.out hjl (by rw [← he]; exact HYk.out)
                    rw [Hid]
                    simp only [rtxn, hgB, Bool.and_false, Bool.false_and]
                  clear he
                  go_wp2
                  go_ret
                  exact ⟨by rw [HE.out]; rfl, HB2.out⟩
                · have hbe : (yk.toList == xk.toList) = false := by rw [key_eq]; simp [he]
                  have HJ2 : Hid (∀ i y, i < j + 1 → (l2.map Wrv.key)[i]? = some y → y ≠ xk) := fun i y hi hy => by
                    by_cases e : i = j
                    · rw [e, HYk.out] at hy; simp only [Option.some.injEq] at hy; rw [← hy]; exact he
                    · exact HJ.out i y (by omega) hy
                  clear he
                  go_wp2
                  go_roundw
                  case rel => exact ⟨j + 1, by go_num, by omega, HJ2, HX2, HYY, HB2⟩
                  case measure => simp [intOf]; omega
              · obtain rfl : k = j := by omega
                have q := ref_right_any xk wr hsz
                go_wp2_with fail
                refine q.mono ?_
                rintro e w2 ⟨rfl, hw⟩
                subst hw
                clear q
                have HXX2 := HXX
                have HBY2 := HBY
                have HB2 := HB1
                cases hr : right xk
                · have HE : Hid (rtxn id true l1 l2 = false) := by
                    have hgB : goodB [] (l2.map Wrv.key) = false := goodB_wrong HXk.out hr
                    rw [Hid]
                    simp only [rtxn, hgB, Bool.and_false, Bool.false_and]
                  clear hr
                  go_wp2
                  go_ret
                  exact ⟨by rw [HE.out]; rfl, HB2.out⟩
                · have HK2 : Hid (GoodK (l2.map Wrv.key) (k + 1)) := HK.out.next HXk.out hr HJ.out
                  clear hr
                  have q2 := ref_rightVal_any xv w2 hszv
                  have e1 : w2.cell? ⟨bx, 1, none⟩ = some (.string xv) := cell_of_heap HXX2.out rfl
                  have e2 : w2.cell? ⟨bx, 2, none⟩ = some (.bool xg) := cell_of_heap HXX2.out rfl
                  go_wp2_with fail
                  refine q2.mono ?_
                  rintro e w3 ⟨rfl, hw⟩
                  subst hw
                  clear q2
                  cases hv : rightVal xv
                  · have HE : Hid (rtxn id true l1 l2 = false) := by
                      have : l2.all rval1 = false := List.all_eq_false.2 ⟨_, List.mem_of_getElem? HXm.out, by simp [rval1, hv]⟩
                      rw [Hid, rtxn, this, Bool.and_false]
                    clear hv
                    go_wp2
                    go_ret
                    exact ⟨by rw [HE.out]; rfl, HB2.out⟩
                  · cases xg
                    · have HV2 : Hid (∀ j x, j < k + 1 → l2[j]? = some x → rval1 x = true) := nextV HVK.out HXm.out (by simp [rval1, hv])
                      clear hv
                      go_wp2
                      go_roundw
                      case rel => exact ⟨k + 1, by go_num, by omega, HK2, HBY2, HB2, HV2⟩
                      case measure => simp [intOf]; omega
                    · by_cases hz : xv = ⟨#[]⟩
                      · have hbz : (xv.toList == []) = true := by rw [none_eq]; simp [hz]
                        have HV2 : Hid (∀ j x, j < k + 1 → l2[j]? = some x → rval1 x = true) := nextV HVK.out HXm.out (by unfold rval1; simp only [hv]; simp [hz])
                        clear hv hz
                        go_wp2
                        go_roundw
                        case rel => exact ⟨k + 1, by go_num, by omega, HK2, HBY2, HB2, HV2⟩
                        case measure => simp [intOf]; omega
                      · have hbz : (xv.toList == []) = false := by rw [none_eq]; simp [hz]
                        have HE : Hid (rtxn id true l1 l2 = false) := by
                          have : l2.all rval1 = false := List.all_eq_false.2 ⟨_, List.mem_of_getElem? HXm.out, by simp [rval1, hv, hz]⟩
                          rw [Hid, rtxn, this, Bool.and_false]
                        clear hv hz
                        go_wp2
                        go_ret
                        exact ⟨by rw [HE.out]; rfl, HB2.out⟩
          · have HG2 : Hid (goodB [] (l2.map Wrv.key) = true) := goodB_all (by rw [List.length_map]; rw [show l2.length = k by omega]; exact HK.out)
            have HV2 : Hid (l2.all rval1 = true) := List.all_eq_true.2 (fun x hx => by
              obtain ⟨i, hi⟩ := List.getElem?_of_mem hx
              exact HVK.out i x (by have := (List.getElem?_eq_some_iff.1 hi).1; omega) hi)
            have HE : Hid (rtxn id true l1 l2 = true) := by rw [Hid, rtxn, HRI.out, HRC.out, HG1.out, HG2.out, HV2.out]; rfl
            clear HK HVK
            go_wp2
            go_ret
            exact ⟨by rw [HE.out]; rfl, HB.out⟩
end Go.Proofs.Ytlefaicdcomkjaa
