/-
  SessionRises (P13.3): for all calls and any client, a slot of that client never gets a lesser Seq, and what is done stays so till something new is asked. No condition.
-/
import Derived.Test.YtophkidigajliaaRows
import Derived.Test.YtophkidigajliaaSeV
import Derived.WalkKit
import Derived.ProofKit
import Derived.OpenShut
import Derived.ShutString
import Derived.ChangeOld
import Derived.Below
namespace Go.Proofs.Ytophkidigajliaa.sessionRises
open Go.ChangeShapes Go.WideShapes Go.ChangeAt Go.RowKit
open Go.ChangeMaps (open_string shut_string)
set_option linter.unusedSimpArgs false
set_option linter.unusedVariables false

theorem own : ownKnob Try.prog.godebug = none := by kernel_rfl
theorem laidOut : laidOutB Try.prog = true := by kernel_rfl

/-! The law returns true, and writes nothing that was there. -/
set_option maxRecDepth 100000 in
set_option maxHeartbeats 16000000 in
theorem walk (a0 : Option Addr) (len0 cap0 : Nat) (O0 : Nat → Lop) (a1 : Int) (w : World) (w0 : Lops w a0 len0 O0) (w1 : (Lit.int .i64 a1).wf = true) :
    Calls Try.prog 4 #[.slice a0 len0 cap0, .int .i64 a1] w fun e w' => e = .returned (.bool true) ∧ Below w.heap.size w w' := by
  have HLO : Hid (Lops w a0 len0 O0) := w0
  have hln : len0 ≤ maxLen := w0.1
  unfold maxLen at hln
  have HWF : Hid ((Lit.int .i64 a1).wf = true) := w1
  clear w0 w1
  go_enter Try.func4, Try.ntmps4
  go_wp2_with fail
  refine (new_any w).mono ?_
  rintro e v2 ⟨g, bm, rfl, hS, hb, hg, hbm⟩
  have b2 : Below v2.heap.size v2 (v2.alloc (.cells #[.int .u64 0, .bool false, .int .i64 0, .int .i64 0, .int .u64 0] 42)) := (Below.refl _ _).alloc (Nat.le_refl _) _
  have HB3 : Hid (Below w.heap.size w (v2.alloc (.cells #[.int .u64 0, .bool false, .int .i64 0, .int .i64 0, .int .u64 0] 42))) := hb.trans (b2.mono hb.size)
  have HN3 : Hid ((v2.alloc (.cells #[.int .u64 0, .bool false, .int .i64 0, .int .i64 0, .int .u64 0] 42)).heap[v2.heap.size]? = some (.cells (sarr (slotL [] a1)) 42)) := heap_alloc_new v2 _
  have HS3 : Hid (Se (v2.alloc (.cells #[.int .u64 0, .bool false, .int .i64 0, .int .i64 0, .int .u64 0] 42)) g bm []) := hS.later b2
  have HG : Hid (w.heap.size ≤ g) := hg
  have HBM : Hid (w.heap.size ≤ bm) := hbm
  have HPB : Hid (bm < v2.heap.size ∧ w.heap.size ≤ v2.heap.size) := ⟨hS.lts.2, hb.size⟩
  clear hS hb b2 hg hbm
  go_wp2
  generalize hv3 : v2.alloc (.cells #[.int .u64 0, .bool false, .int .i64 0, .int .i64 0, .int .u64 0] 42) = v3 at *
  clear hv3
  generalize v2.heap.size = p at *
  go_loopw [7, 16] (fun had t wr => ∃ k : Nat, t = .int .i64 (k : Nat) ∧ k ≤ len0 ∧ Hid (∃ L, had = .bool (hasL L a1) ∧ L.length ≤ k ∧ L.length ≤ 30 ∧ Se wr g bm L ∧ wr.heap[p]? = some (.cells (sarr (slotL L a1)) 42)) ∧ Hid (Below w.heap.size w wr)) (fun _ t _ => len0 - (intOf t).toNat)
  case atStart => exact ⟨0, rfl, by omega, ⟨[], rfl, by simp, by simp, HS3.out, HN3.out⟩, HB3.out⟩
  case round =>
    obtain ⟨k, rfl, hk, HR, HW⟩ := hrel
    obtain ⟨L, rfl, hL1, hL2, hS, hN⟩ := HR.out
    have HS : Hid (Se wr g bm L) := hS
    have HN : Hid (wr.heap[p]? = some (.cells (sarr (slotL L a1)) 42)) := hN
    clear HR hS hN HB3 HN3 HS3
    by_cases hlt : k < len0
    · obtain ⟨b, off, rfl, hc⟩ := HLO.out.at (by omega)
      obtain ⟨hok, d0, d1, d2, d3, d4, d5⟩ := hc k hlt
      clear hc
      have d0 := (HW.out.cell (World.block_lt_of_cell? _ _ d0)).trans d0
      have d1 := (HW.out.cell (World.block_lt_of_cell? _ _ d1)).trans d1
      have d2 := (HW.out.cell (World.block_lt_of_cell? _ _ d2)).trans d2
      have d3 := (HW.out.cell (World.block_lt_of_cell? _ _ d3)).trans d3
      have d4 := (HW.out.cell (World.block_lt_of_cell? _ _ d4)).trans d4
      have d5 := (HW.out.cell (World.block_lt_of_cell? _ _ d5)).trans d5
      generalize O0 k = x at d0 d1 d2 d3 d4 d5 hok
      obtain ⟨xk, ⟨xc, xs⟩, xa, xcd, xn⟩ := x
      simp only at d0 d1 d2 d3 d4 d5
      have HOK : Hid (Lop.ok ⟨xk, (xc, xs), xa, xcd, xn⟩) := hok
      clear hok
      by_cases h30 : 30 ≤ k
      · have HBX : Hid (Below w.heap.size w (wr.alloc (.cells #[.int .i64 xk, .int .i64 xc, .int .u64 xs, .int .i64 xa, .int .i64 xcd, .int .u64 xn] 33))) := HW.out.alloc HW.out.size _
        clear HS HN
        go_wp2_with fail
        refine (awake_any _).mono ?_
        rintro e w5 ⟨rfl, hb⟩
        have HBF : Hid (Below w.heap.size w w5) := HBX.out.trans (hb.mono HBX.out.size)
        clear hb d0 d1 d2 d3 d4 d5
        go_wp2
        go_ret
        exact ⟨rfl, HBF.out⟩
      have bx : Below wr.heap.size wr (wr.alloc (.cells #[.int .i64 xk, .int .i64 xc, .int .u64 xs, .int .i64 xa, .int .i64 xcd, .int .u64 xn] 33)) := (Below.refl _ _).alloc (Nat.le_refl _) _
      have HWX : Hid (Below w.heap.size w (wr.alloc (.cells #[.int .i64 xk, .int .i64 xc, .int .u64 xs, .int .i64 xa, .int .i64 xcd, .int .u64 xn] 33))) := HW.out.trans (bx.mono HW.out.size)
      have HXX : Hid ((wr.alloc (.cells #[.int .i64 xk, .int .i64 xc, .int .u64 xs, .int .i64 xa, .int .i64 xcd, .int .u64 xn] 33)).heap[wr.heap.size]? = some (.cells #[.int .i64 xk, .int .i64 xc, .int .u64 xs, .int .i64 xa, .int .i64 xcd, .int .u64 xn] 33)) := heap_alloc_new wr _
      have HSX : Hid (Se (wr.alloc (.cells #[.int .i64 xk, .int .i64 xc, .int .u64 xs, .int .i64 xa, .int .i64 xcd, .int .u64 xn] 33)) g bm L) := HS.out.later bx
      have HNX : Hid ((wr.alloc (.cells #[.int .i64 xk, .int .i64 xc, .int .u64 xs, .int .i64 xa, .int .i64 xcd, .int .u64 xn] 33)).heap[p]? = some (.cells (sarr (slotL L a1)) 42)) := keep_cells bx HN.out
      clear bx HS HN HW
      go_upto_region 7 with fail
      clear d0 d1 d2 d3 d4 d5
      generalize hw1 : wr.alloc (.cells #[.int .i64 xk, .int .i64 xc, .int .u64 xs, .int .i64 xa, .int .i64 xcd, .int .u64 xn] 33) = w1 at *
      clear hw1
      generalize wr.heap.size = px at *
      have e0 : w1.cell? ⟨px, 0, none⟩ = some (.int .i64 xk) := cell_of_heap HXX.out rfl
      have e1 : w1.cell? ⟨px, 1, none⟩ = some (.int .i64 xc) := cell_of_heap HXX.out rfl
      have e2 : w1.cell? ⟨px, 2, none⟩ = some (.int .u64 xs) := cell_of_heap HXX.out rfl
      have e3 : w1.cell? ⟨px, 3, none⟩ = some (.int .i64 xa) := cell_of_heap HXX.out rfl
      have e4 : w1.cell? ⟨px, 4, none⟩ = some (.int .i64 xcd) := cell_of_heap HXX.out rfl
      have e5 : w1.cell? ⟨px, 5, none⟩ = some (.int .u64 xn) := cell_of_heap HXX.out rfl
      have hopen := open_any g bm L (xc, xs) xa w1 HSX.out HOK.out.id1 (by omega)
      have hdone := done_any g bm L (xc, xs) xa xcd xn w1 HSX.out HOK.out.id1 (by omega)
      have HOPEN : Hid (Calls Try.prog 15 #[.pointer (some ⟨g, 0, none⟩), idv (xc, xs), .int .i64 xa] w1 fun e w' => e = .returned (.int .i64 (openE L (xc, xs) xa)) ∧ Se w' g bm (openLg L (xc, xs) xa) ∧ w1.grownBy w' (some bm)) := hopen
      have HDONE : Hid (Calls Try.prog 16 #[.pointer (some ⟨g, 0, none⟩), idv (xc, xs), .int .i64 xa, .int .i64 xcd, .int .u64 xn] w1 fun e w' => e = .returned (.int .i64 (doneE L (xc, xs) xa)) ∧ Se w' g bm (doneLg L (xc, xs) xa xcd xn) ∧ w1.grownBy w' (some bm)) := hdone
      clear hopen hdone
      have hp := HPB.out
      rcases (show xk = 0 ∨ xk = 1 ∨ xk = 2 ∨ xk = 3 ∨ (¬ xk = 0 ∧ ¬ xk = 1 ∧ ¬ xk = 2 ∧ ¬ xk = 3) by omega) with rfl | rfl | rfl | rfl | ⟨n0, n1, n2, n3⟩
      · go_wp2_with fail
        refine HOPEN.out.mono ?_
        rintro e w2 ⟨rfl, hS2, hg2⟩
        have HT : Hid (Rises L (openLg L (xc, xs) xa) a1) := rises_open L (xc, xs) xa a1
        have hl2 := openLg_len L (xc, xs) xa
        have HS2 : Hid (Se w2 g bm (openLg L (xc, xs) xa)) := hS2
        have HN2 : Hid (w2.heap[p]? = some (.cells (sarr (slotL L a1)) 42)) := (hg2.block p (Array.getElem?_eq_some_iff.1 HNX.out).1 (by simp; omega)).trans HNX.out
        have HW2 : Hid (Below w.heap.size w w2) := HWX.out.trans (below_of_grown hg2 HWX.out.size HBM.out)
        clear e0 e1 e2 e3 e4 e5 hS2 hg2 HOPEN HDONE HSX HNX HWX HXX
        generalize openLg L (xc, xs) xa = L2 at *
        have h1 := of_any g bm L2 a1 w2 HS2.out HWF.out
        go_wp2_with fail
        refine h1.mono ?_
        clear h1
        rintro e w3 ⟨rfl, hb3⟩
        have HS3 : Hid (Se w3 g bm L2) := HS2.out.later hb3
        have HN3 : Hid (w3.heap[p]? = some (.cells (sarr (slotL L a1)) 42)) := keep_cells hb3 HN2.out
        have HW3 : Hid (Below w.heap.size w w3) := HW2.out.trans (hb3.mono HW2.out.size)
        clear hb3 HS2 HN2 HW2
        have b4 : Below w3.heap.size w3 (w3.alloc (.cells (sarr (slotL L2 a1)) 42)) := (Below.refl _ _).alloc (Nat.le_refl _) _
        have HNW : Hid ((w3.alloc (.cells (sarr (slotL L2 a1)) 42)).heap[w3.heap.size]? = some (.cells (sarr (slotL L2 a1)) 42)) := heap_alloc_new w3 _
        have HS4 : Hid (Se (w3.alloc (.cells (sarr (slotL L2 a1)) 42)) g bm L2) := HS3.out.later b4
        have HN4 : Hid ((w3.alloc (.cells (sarr (slotL L2 a1)) 42)).heap[p]? = some (.cells (sarr (slotL L a1)) 42)) := keep_cells b4 HN3.out
        have HW4 : Hid (Below w.heap.size w (w3.alloc (.cells (sarr (slotL L2 a1)) 42))) := HW3.out.trans (b4.mono HW3.out.size)
        have hpl : p < w3.heap.size := (Array.getElem?_eq_some_iff.1 HN3.out).1
        clear b4 HS3 HN3 HW3
        go_upto_region 15 with fail
        generalize hw4 : w3.alloc (.cells (sarr (slotL L2 a1)) 42) = w4 at *
        clear hw4
        generalize w3.heap.size = pn at *
        have HFIN : Hid (∀ wf, wf = put5 w4 p (.int .u64 (slotL L2 a1).seq) (.bool (slotL L2 a1).opn) (.int .i64 (slotL L2 a1).at_) (.int .i64 (slotL L2 a1).code) (.int .u64 (slotL L2 a1).num) → (∃ L', Value.bool (hasL L2 a1) = .bool (hasL L' a1) ∧ L'.length ≤ k + 1 ∧ L'.length ≤ 30 ∧ Se wf g bm L' ∧ wf.heap[p]? = some (.cells (sarr (slotL L' a1)) 42)) ∧ Below w.heap.size w wf) := by
          intro wf hwf
          subst hwf
          have hgm := HS4.out.isMap
          have hgc := HS4.out.cell
          have hpg : g ≠ p := fun e => by
            have h0 := HN4.out
            rw [← e] at h0
            have h1 := cell_of_heap (i := 0) h0 rfl
            rw [hgc] at h1
            cases h1
          have hpm : bm ≠ p := fun e => by
            obtain ⟨es, cl, hm⟩ := hgm
            have h0 := HN4.out
            rw [← e, hm] at h0
            cases h0
          exact ⟨⟨L2, rfl, by omega, by omega, HS4.out.kept (put5_other _ _ _ _ _ hpg) (put5_other _ _ _ _ _ hpm), five_put HN4.out⟩, below_put5 HW4.out hp.2 _ _ _ _ _⟩
        have HT1 : Hid (hasL L a1 = true → hasL L2 a1 = true ∧ ¬ (slotL L2 a1).seq < (slotL L a1).seq ∧ ((slotL L2 a1).seq = (slotL L a1).seq → (slotL L a1).opn = false → slotL L2 a1 = slotL L a1)) := HT.out
        clear HT HS4
        generalize hasL L2 a1 = has2 at *
        generalize hasL L a1 = has1 at *
        generalize slotL L2 a1 = s2 at *
        generalize slotL L a1 = s1 at *
        obtain ⟨q2, o2, t2, c2, n2⟩ := s2
        obtain ⟨q1, o1, t1, c1, n1⟩ := s1
        obtain ⟨c10, c11, c12, c13, c14⟩ := five_cells HN4.out
        obtain ⟨f10, f11, f12, f13, f14⟩ := five_frozen HN4.out
        obtain ⟨c20, c21, c22, c23, c24⟩ := five_cells HNW.out
        have hpn : p ≠ pn := by omega
        cases has1
        · go_wp2
          go_roundw
          case rel => exact ⟨k + 1, by go_num, by omega, (HFIN.out _ rfl).1, (HFIN.out _ rfl).2⟩
          case measure => simp [intOf]; omega
        obtain ⟨rfl, hlt2, heq2⟩ := HT1.out rfl
        simp only at hlt2 heq2
        have HEQ : Hid (q2 = q1 → o1 = false → (⟨q2, o2, t2, c2, n2⟩ : Slot) = ⟨q1, o1, t1, c1, n1⟩) := heq2
        clear heq2 HT1
        by_cases hq : q2 = q1
        rotate_left
        · have hqb : (q2 == q1) = false := by simp [hq]
          clear hq HEQ
          go_wp2
          go_roundw
          case rel => exact ⟨k + 1, by go_num, by omega, (HFIN.out _ rfl).1, (HFIN.out _ rfl).2⟩
          case measure => simp [intOf]; omega
        cases o1
        rotate_left
        · subst hq
          clear HEQ
          go_wp2
          go_roundw
          case rel => exact ⟨k + 1, by go_num, by omega, (HFIN.out _ rfl).1, (HFIN.out _ rfl).2⟩
          case measure => simp [intOf]; omega
        have he := HEQ.out hq rfl
        simp only [Slot.mk.injEq] at he
        obtain ⟨rfl, rfl, rfl, rfl, rfl⟩ := he
        have hne := neq_42 ⟨q2, false, t2, c2, n2⟩
        clear HEQ
        go_wp2
        go_roundw
        case rel => exact ⟨k + 1, by go_num, by omega, (HFIN.out _ rfl).1, (HFIN.out _ rfl).2⟩
        case measure => simp [intOf]; omega
      · go_wp2_with fail
        refine HOPEN.out.mono ?_
        rintro e w2 ⟨rfl, hS2, hg2⟩
        have HT : Hid (Rises L (openLg L (xc, xs) xa) a1) := rises_open L (xc, xs) xa a1
        have hl2 := openLg_len L (xc, xs) xa
        have HS2 : Hid (Se w2 g bm (openLg L (xc, xs) xa)) := hS2
        have HN2 : Hid (w2.heap[p]? = some (.cells (sarr (slotL L a1)) 42)) := (hg2.block p (Array.getElem?_eq_some_iff.1 HNX.out).1 (by simp; omega)).trans HNX.out
        have HW2 : Hid (Below w.heap.size w w2) := HWX.out.trans (below_of_grown hg2 HWX.out.size HBM.out)
        clear e0 e1 e2 e3 e4 e5 hS2 hg2 HOPEN HDONE HSX HNX HWX HXX
        generalize openLg L (xc, xs) xa = L2 at *
        have h1 := of_any g bm L2 a1 w2 HS2.out HWF.out
        go_wp2_with fail
        refine h1.mono ?_
        clear h1
        rintro e w3 ⟨rfl, hb3⟩
        have HS3 : Hid (Se w3 g bm L2) := HS2.out.later hb3
        have HN3 : Hid (w3.heap[p]? = some (.cells (sarr (slotL L a1)) 42)) := keep_cells hb3 HN2.out
        have HW3 : Hid (Below w.heap.size w w3) := HW2.out.trans (hb3.mono HW2.out.size)
        clear hb3 HS2 HN2 HW2
        have b4 : Below w3.heap.size w3 (w3.alloc (.cells (sarr (slotL L2 a1)) 42)) := (Below.refl _ _).alloc (Nat.le_refl _) _
        have HNW : Hid ((w3.alloc (.cells (sarr (slotL L2 a1)) 42)).heap[w3.heap.size]? = some (.cells (sarr (slotL L2 a1)) 42)) := heap_alloc_new w3 _
        have HS4 : Hid (Se (w3.alloc (.cells (sarr (slotL L2 a1)) 42)) g bm L2) := HS3.out.later b4
        have HN4 : Hid ((w3.alloc (.cells (sarr (slotL L2 a1)) 42)).heap[p]? = some (.cells (sarr (slotL L a1)) 42)) := keep_cells b4 HN3.out
        have HW4 : Hid (Below w.heap.size w (w3.alloc (.cells (sarr (slotL L2 a1)) 42))) := HW3.out.trans (b4.mono HW3.out.size)
        have hpl : p < w3.heap.size := (Array.getElem?_eq_some_iff.1 HN3.out).1
        clear b4 HS3 HN3 HW3
        go_upto_region 15 with fail
        generalize hw4 : w3.alloc (.cells (sarr (slotL L2 a1)) 42) = w4 at *
        clear hw4
        generalize w3.heap.size = pn at *
        have HFIN : Hid (∀ wf, wf = put5 w4 p (.int .u64 (slotL L2 a1).seq) (.bool (slotL L2 a1).opn) (.int .i64 (slotL L2 a1).at_) (.int .i64 (slotL L2 a1).code) (.int .u64 (slotL L2 a1).num) → (∃ L', Value.bool (hasL L2 a1) = .bool (hasL L' a1) ∧ L'.length ≤ k + 1 ∧ L'.length ≤ 30 ∧ Se wf g bm L' ∧ wf.heap[p]? = some (.cells (sarr (slotL L' a1)) 42)) ∧ Below w.heap.size w wf) := by
          intro wf hwf
          subst hwf
          have hgm := HS4.out.isMap
          have hgc := HS4.out.cell
          have hpg : g ≠ p := fun e => by
            have h0 := HN4.out
            rw [← e] at h0
            have h1 := cell_of_heap (i := 0) h0 rfl
            rw [hgc] at h1
            cases h1
          have hpm : bm ≠ p := fun e => by
            obtain ⟨es, cl, hm⟩ := hgm
            have h0 := HN4.out
            rw [← e, hm] at h0
            cases h0
          exact ⟨⟨L2, rfl, by omega, by omega, HS4.out.kept (put5_other _ _ _ _ _ hpg) (put5_other _ _ _ _ _ hpm), five_put HN4.out⟩, below_put5 HW4.out hp.2 _ _ _ _ _⟩
        have HT1 : Hid (hasL L a1 = true → hasL L2 a1 = true ∧ ¬ (slotL L2 a1).seq < (slotL L a1).seq ∧ ((slotL L2 a1).seq = (slotL L a1).seq → (slotL L a1).opn = false → slotL L2 a1 = slotL L a1)) := HT.out
        clear HT HS4
        generalize hasL L2 a1 = has2 at *
        generalize hasL L a1 = has1 at *
        generalize slotL L2 a1 = s2 at *
        generalize slotL L a1 = s1 at *
        obtain ⟨q2, o2, t2, c2, n2⟩ := s2
        obtain ⟨q1, o1, t1, c1, n1⟩ := s1
        obtain ⟨c10, c11, c12, c13, c14⟩ := five_cells HN4.out
        obtain ⟨f10, f11, f12, f13, f14⟩ := five_frozen HN4.out
        obtain ⟨c20, c21, c22, c23, c24⟩ := five_cells HNW.out
        have hpn : p ≠ pn := by omega
        cases has1
        · go_wp2
          go_roundw
          case rel => exact ⟨k + 1, by go_num, by omega, (HFIN.out _ rfl).1, (HFIN.out _ rfl).2⟩
          case measure => simp [intOf]; omega
        obtain ⟨rfl, hlt2, heq2⟩ := HT1.out rfl
        simp only at hlt2 heq2
        have HEQ : Hid (q2 = q1 → o1 = false → (⟨q2, o2, t2, c2, n2⟩ : Slot) = ⟨q1, o1, t1, c1, n1⟩) := heq2
        clear heq2 HT1
        by_cases hq : q2 = q1
        rotate_left
        · have hqb : (q2 == q1) = false := by simp [hq]
          clear hq HEQ
          go_wp2
          go_roundw
          case rel => exact ⟨k + 1, by go_num, by omega, (HFIN.out _ rfl).1, (HFIN.out _ rfl).2⟩
          case measure => simp [intOf]; omega
        cases o1
        rotate_left
        · subst hq
          clear HEQ
          go_wp2
          go_roundw
          case rel => exact ⟨k + 1, by go_num, by omega, (HFIN.out _ rfl).1, (HFIN.out _ rfl).2⟩
          case measure => simp [intOf]; omega
        have he := HEQ.out hq rfl
        simp only [Slot.mk.injEq] at he
        obtain ⟨rfl, rfl, rfl, rfl, rfl⟩ := he
        have hne := neq_42 ⟨q2, false, t2, c2, n2⟩
        clear HEQ
        go_wp2
        go_roundw
        case rel => exact ⟨k + 1, by go_num, by omega, (HFIN.out _ rfl).1, (HFIN.out _ rfl).2⟩
        case measure => simp [intOf]; omega
      · go_wp2_with fail
        refine HDONE.out.mono ?_
        rintro e w2 ⟨rfl, hS2, hg2⟩
        have HT : Hid (Rises L (doneLg L (xc, xs) xa xcd xn) a1) := rises_done L (xc, xs) xa xcd xn a1
        have hl2 := doneLg_len L (xc, xs) xa xcd xn
        have HS2 : Hid (Se w2 g bm (doneLg L (xc, xs) xa xcd xn)) := hS2
        have HN2 : Hid (w2.heap[p]? = some (.cells (sarr (slotL L a1)) 42)) := (hg2.block p (Array.getElem?_eq_some_iff.1 HNX.out).1 (by simp; omega)).trans HNX.out
        have HW2 : Hid (Below w.heap.size w w2) := HWX.out.trans (below_of_grown hg2 HWX.out.size HBM.out)
        clear e0 e1 e2 e3 e4 e5 hS2 hg2 HOPEN HDONE HSX HNX HWX HXX
        generalize doneLg L (xc, xs) xa xcd xn = L2 at *
        have h1 := of_any g bm L2 a1 w2 HS2.out HWF.out
        go_wp2_with fail
        refine h1.mono ?_
        clear h1
        rintro e w3 ⟨rfl, hb3⟩
        have HS3 : Hid (Se w3 g bm L2) := HS2.out.later hb3
        have HN3 : Hid (w3.heap[p]? = some (.cells (sarr (slotL L a1)) 42)) := keep_cells hb3 HN2.out
        have HW3 : Hid (Below w.heap.size w w3) := HW2.out.trans (hb3.mono HW2.out.size)
        clear hb3 HS2 HN2 HW2
        have b4 : Below w3.heap.size w3 (w3.alloc (.cells (sarr (slotL L2 a1)) 42)) := (Below.refl _ _).alloc (Nat.le_refl _) _
        have HNW : Hid ((w3.alloc (.cells (sarr (slotL L2 a1)) 42)).heap[w3.heap.size]? = some (.cells (sarr (slotL L2 a1)) 42)) := heap_alloc_new w3 _
        have HS4 : Hid (Se (w3.alloc (.cells (sarr (slotL L2 a1)) 42)) g bm L2) := HS3.out.later b4
        have HN4 : Hid ((w3.alloc (.cells (sarr (slotL L2 a1)) 42)).heap[p]? = some (.cells (sarr (slotL L a1)) 42)) := keep_cells b4 HN3.out
        have HW4 : Hid (Below w.heap.size w (w3.alloc (.cells (sarr (slotL L2 a1)) 42))) := HW3.out.trans (b4.mono HW3.out.size)
        have hpl : p < w3.heap.size := (Array.getElem?_eq_some_iff.1 HN3.out).1
        clear b4 HS3 HN3 HW3
        go_upto_region 15 with fail
        generalize hw4 : w3.alloc (.cells (sarr (slotL L2 a1)) 42) = w4 at *
        clear hw4
        generalize w3.heap.size = pn at *
        have HFIN : Hid (∀ wf, wf = put5 w4 p (.int .u64 (slotL L2 a1).seq) (.bool (slotL L2 a1).opn) (.int .i64 (slotL L2 a1).at_) (.int .i64 (slotL L2 a1).code) (.int .u64 (slotL L2 a1).num) → (∃ L', Value.bool (hasL L2 a1) = .bool (hasL L' a1) ∧ L'.length ≤ k + 1 ∧ L'.length ≤ 30 ∧ Se wf g bm L' ∧ wf.heap[p]? = some (.cells (sarr (slotL L' a1)) 42)) ∧ Below w.heap.size w wf) := by
          intro wf hwf
          subst hwf
          have hgm := HS4.out.isMap
          have hgc := HS4.out.cell
          have hpg : g ≠ p := fun e => by
            have h0 := HN4.out
            rw [← e] at h0
            have h1 := cell_of_heap (i := 0) h0 rfl
            rw [hgc] at h1
            cases h1
          have hpm : bm ≠ p := fun e => by
            obtain ⟨es, cl, hm⟩ := hgm
            have h0 := HN4.out
            rw [← e, hm] at h0
            cases h0
          exact ⟨⟨L2, rfl, by omega, by omega, HS4.out.kept (put5_other _ _ _ _ _ hpg) (put5_other _ _ _ _ _ hpm), five_put HN4.out⟩, below_put5 HW4.out hp.2 _ _ _ _ _⟩
        have HT1 : Hid (hasL L a1 = true → hasL L2 a1 = true ∧ ¬ (slotL L2 a1).seq < (slotL L a1).seq ∧ ((slotL L2 a1).seq = (slotL L a1).seq → (slotL L a1).opn = false → slotL L2 a1 = slotL L a1)) := HT.out
        clear HT HS4
        generalize hasL L2 a1 = has2 at *
        generalize hasL L a1 = has1 at *
        generalize slotL L2 a1 = s2 at *
        generalize slotL L a1 = s1 at *
        obtain ⟨q2, o2, t2, c2, n2⟩ := s2
        obtain ⟨q1, o1, t1, c1, n1⟩ := s1
        obtain ⟨c10, c11, c12, c13, c14⟩ := five_cells HN4.out
        obtain ⟨f10, f11, f12, f13, f14⟩ := five_frozen HN4.out
        obtain ⟨c20, c21, c22, c23, c24⟩ := five_cells HNW.out
        have hpn : p ≠ pn := by omega
        cases has1
        · go_wp2
          go_roundw
          case rel => exact ⟨k + 1, by go_num, by omega, (HFIN.out _ rfl).1, (HFIN.out _ rfl).2⟩
          case measure => simp [intOf]; omega
        obtain ⟨rfl, hlt2, heq2⟩ := HT1.out rfl
        simp only at hlt2 heq2
        have HEQ : Hid (q2 = q1 → o1 = false → (⟨q2, o2, t2, c2, n2⟩ : Slot) = ⟨q1, o1, t1, c1, n1⟩) := heq2
        clear heq2 HT1
        by_cases hq : q2 = q1
        rotate_left
        · have hqb : (q2 == q1) = false := by simp [hq]
          clear hq HEQ
          go_wp2
          go_roundw
          case rel => exact ⟨k + 1, by go_num, by omega, (HFIN.out _ rfl).1, (HFIN.out _ rfl).2⟩
          case measure => simp [intOf]; omega
        cases o1
        rotate_left
        · subst hq
          clear HEQ
          go_wp2
          go_roundw
          case rel => exact ⟨k + 1, by go_num, by omega, (HFIN.out _ rfl).1, (HFIN.out _ rfl).2⟩
          case measure => simp [intOf]; omega
        have he := HEQ.out hq rfl
        simp only [Slot.mk.injEq] at he
        obtain ⟨rfl, rfl, rfl, rfl, rfl⟩ := he
        have hne := neq_42 ⟨q2, false, t2, c2, n2⟩
        clear HEQ
        go_wp2
        go_roundw
        case rel => exact ⟨k + 1, by go_num, by omega, (HFIN.out _ rfl).1, (HFIN.out _ rfl).2⟩
        case measure => simp [intOf]; omega
      · go_wp2_with fail
        refine HDONE.out.mono ?_
        rintro e w2 ⟨rfl, hS2, hg2⟩
        have HT : Hid (Rises L (doneLg L (xc, xs) xa xcd xn) a1) := rises_done L (xc, xs) xa xcd xn a1
        have hl2 := doneLg_len L (xc, xs) xa xcd xn
        have HS2 : Hid (Se w2 g bm (doneLg L (xc, xs) xa xcd xn)) := hS2
        have HN2 : Hid (w2.heap[p]? = some (.cells (sarr (slotL L a1)) 42)) := (hg2.block p (Array.getElem?_eq_some_iff.1 HNX.out).1 (by simp; omega)).trans HNX.out
        have HW2 : Hid (Below w.heap.size w w2) := HWX.out.trans (below_of_grown hg2 HWX.out.size HBM.out)
        clear e0 e1 e2 e3 e4 e5 hS2 hg2 HOPEN HDONE HSX HNX HWX HXX
        generalize doneLg L (xc, xs) xa xcd xn = L2 at *
        have h1 := of_any g bm L2 a1 w2 HS2.out HWF.out
        go_wp2_with fail
        refine h1.mono ?_
        clear h1
        rintro e w3 ⟨rfl, hb3⟩
        have HS3 : Hid (Se w3 g bm L2) := HS2.out.later hb3
        have HN3 : Hid (w3.heap[p]? = some (.cells (sarr (slotL L a1)) 42)) := keep_cells hb3 HN2.out
        have HW3 : Hid (Below w.heap.size w w3) := HW2.out.trans (hb3.mono HW2.out.size)
        clear hb3 HS2 HN2 HW2
        have b4 : Below w3.heap.size w3 (w3.alloc (.cells (sarr (slotL L2 a1)) 42)) := (Below.refl _ _).alloc (Nat.le_refl _) _
        have HNW : Hid ((w3.alloc (.cells (sarr (slotL L2 a1)) 42)).heap[w3.heap.size]? = some (.cells (sarr (slotL L2 a1)) 42)) := heap_alloc_new w3 _
        have HS4 : Hid (Se (w3.alloc (.cells (sarr (slotL L2 a1)) 42)) g bm L2) := HS3.out.later b4
        have HN4 : Hid ((w3.alloc (.cells (sarr (slotL L2 a1)) 42)).heap[p]? = some (.cells (sarr (slotL L a1)) 42)) := keep_cells b4 HN3.out
        have HW4 : Hid (Below w.heap.size w (w3.alloc (.cells (sarr (slotL L2 a1)) 42))) := HW3.out.trans (b4.mono HW3.out.size)
        have hpl : p < w3.heap.size := (Array.getElem?_eq_some_iff.1 HN3.out).1
        clear b4 HS3 HN3 HW3
        go_upto_region 15 with fail
        generalize hw4 : w3.alloc (.cells (sarr (slotL L2 a1)) 42) = w4 at *
        clear hw4
        generalize w3.heap.size = pn at *
        have HFIN : Hid (∀ wf, wf = put5 w4 p (.int .u64 (slotL L2 a1).seq) (.bool (slotL L2 a1).opn) (.int .i64 (slotL L2 a1).at_) (.int .i64 (slotL L2 a1).code) (.int .u64 (slotL L2 a1).num) → (∃ L', Value.bool (hasL L2 a1) = .bool (hasL L' a1) ∧ L'.length ≤ k + 1 ∧ L'.length ≤ 30 ∧ Se wf g bm L' ∧ wf.heap[p]? = some (.cells (sarr (slotL L' a1)) 42)) ∧ Below w.heap.size w wf) := by
          intro wf hwf
          subst hwf
          have hgm := HS4.out.isMap
          have hgc := HS4.out.cell
          have hpg : g ≠ p := fun e => by
            have h0 := HN4.out
            rw [← e] at h0
            have h1 := cell_of_heap (i := 0) h0 rfl
            rw [hgc] at h1
            cases h1
          have hpm : bm ≠ p := fun e => by
            obtain ⟨es, cl, hm⟩ := hgm
            have h0 := HN4.out
            rw [← e, hm] at h0
            cases h0
          exact ⟨⟨L2, rfl, by omega, by omega, HS4.out.kept (put5_other _ _ _ _ _ hpg) (put5_other _ _ _ _ _ hpm), five_put HN4.out⟩, below_put5 HW4.out hp.2 _ _ _ _ _⟩
        have HT1 : Hid (hasL L a1 = true → hasL L2 a1 = true ∧ ¬ (slotL L2 a1).seq < (slotL L a1).seq ∧ ((slotL L2 a1).seq = (slotL L a1).seq → (slotL L a1).opn = false → slotL L2 a1 = slotL L a1)) := HT.out
        clear HT HS4
        generalize hasL L2 a1 = has2 at *
        generalize hasL L a1 = has1 at *
        generalize slotL L2 a1 = s2 at *
        generalize slotL L a1 = s1 at *
        obtain ⟨q2, o2, t2, c2, n2⟩ := s2
        obtain ⟨q1, o1, t1, c1, n1⟩ := s1
        obtain ⟨c10, c11, c12, c13, c14⟩ := five_cells HN4.out
        obtain ⟨f10, f11, f12, f13, f14⟩ := five_frozen HN4.out
        obtain ⟨c20, c21, c22, c23, c24⟩ := five_cells HNW.out
        have hpn : p ≠ pn := by omega
        cases has1
        · go_wp2
          go_roundw
          case rel => exact ⟨k + 1, by go_num, by omega, (HFIN.out _ rfl).1, (HFIN.out _ rfl).2⟩
          case measure => simp [intOf]; omega
        obtain ⟨rfl, hlt2, heq2⟩ := HT1.out rfl
        simp only at hlt2 heq2
        have HEQ : Hid (q2 = q1 → o1 = false → (⟨q2, o2, t2, c2, n2⟩ : Slot) = ⟨q1, o1, t1, c1, n1⟩) := heq2
        clear heq2 HT1
        by_cases hq : q2 = q1
        rotate_left
        · have hqb : (q2 == q1) = false := by simp [hq]
          clear hq HEQ
          go_wp2
          go_roundw
          case rel => exact ⟨k + 1, by go_num, by omega, (HFIN.out _ rfl).1, (HFIN.out _ rfl).2⟩
          case measure => simp [intOf]; omega
        cases o1
        rotate_left
        · subst hq
          clear HEQ
          go_wp2
          go_roundw
          case rel => exact ⟨k + 1, by go_num, by omega, (HFIN.out _ rfl).1, (HFIN.out _ rfl).2⟩
          case measure => simp [intOf]; omega
        have he := HEQ.out hq rfl
        simp only [Slot.mk.injEq] at he
        obtain ⟨rfl, rfl, rfl, rfl, rfl⟩ := he
        have hne := neq_42 ⟨q2, false, t2, c2, n2⟩
        clear HEQ
        go_wp2
        go_roundw
        case rel => exact ⟨k + 1, by go_num, by omega, (HFIN.out _ rfl).1, (HFIN.out _ rfl).2⟩
        case measure => simp [intOf]; omega
      · clear HOPEN HDONE
        obtain ⟨L2, hLL⟩ : ∃ L2, L2 = L := ⟨L, rfl⟩
        have HT : Hid (Rises L L2 a1) := by rw [hLL]; exact Rises.refl L a1
        have hl2 : L2.length ≤ L.length + 1 := by rw [hLL]; omega
        have HS2 : Hid (Se w1 g bm L2) := by rw [hLL]; exact HSX.out
        have HN2 := HNX
        have HW2 := HWX
        clear HSX HNX HWX hLL
        go_upto_region 14 with fail
        clear e0 e1 e2 e3 e4 e5 HXX
        generalize w1 = w2 at *
        have h1 := of_any g bm L2 a1 w2 HS2.out HWF.out
        go_wp2_with fail
        refine h1.mono ?_
        clear h1
        rintro e w3 ⟨rfl, hb3⟩
        have HS3 : Hid (Se w3 g bm L2) := HS2.out.later hb3
        have HN3 : Hid (w3.heap[p]? = some (.cells (sarr (slotL L a1)) 42)) := keep_cells hb3 HN2.out
        have HW3 : Hid (Below w.heap.size w w3) := HW2.out.trans (hb3.mono HW2.out.size)
        clear hb3 HS2 HN2 HW2
        have b4 : Below w3.heap.size w3 (w3.alloc (.cells (sarr (slotL L2 a1)) 42)) := (Below.refl _ _).alloc (Nat.le_refl _) _
        have HNW : Hid ((w3.alloc (.cells (sarr (slotL L2 a1)) 42)).heap[w3.heap.size]? = some (.cells (sarr (slotL L2 a1)) 42)) := heap_alloc_new w3 _
        have HS4 : Hid (Se (w3.alloc (.cells (sarr (slotL L2 a1)) 42)) g bm L2) := HS3.out.later b4
        have HN4 : Hid ((w3.alloc (.cells (sarr (slotL L2 a1)) 42)).heap[p]? = some (.cells (sarr (slotL L a1)) 42)) := keep_cells b4 HN3.out
        have HW4 : Hid (Below w.heap.size w (w3.alloc (.cells (sarr (slotL L2 a1)) 42))) := HW3.out.trans (b4.mono HW3.out.size)
        have hpl : p < w3.heap.size := (Array.getElem?_eq_some_iff.1 HN3.out).1
        clear b4 HS3 HN3 HW3
        go_upto_region 15 with fail
        generalize hw4 : w3.alloc (.cells (sarr (slotL L2 a1)) 42) = w4 at *
        clear hw4
        generalize w3.heap.size = pn at *
        have HFIN : Hid (∀ wf, wf = put5 w4 p (.int .u64 (slotL L2 a1).seq) (.bool (slotL L2 a1).opn) (.int .i64 (slotL L2 a1).at_) (.int .i64 (slotL L2 a1).code) (.int .u64 (slotL L2 a1).num) → (∃ L', Value.bool (hasL L2 a1) = .bool (hasL L' a1) ∧ L'.length ≤ k + 1 ∧ L'.length ≤ 30 ∧ Se wf g bm L' ∧ wf.heap[p]? = some (.cells (sarr (slotL L' a1)) 42)) ∧ Below w.heap.size w wf) := by
          intro wf hwf
          subst hwf
          have hgm := HS4.out.isMap
          have hgc := HS4.out.cell
          have hpg : g ≠ p := fun e => by
            have h0 := HN4.out
            rw [← e] at h0
            have h1 := cell_of_heap (i := 0) h0 rfl
            rw [hgc] at h1
            cases h1
          have hpm : bm ≠ p := fun e => by
            obtain ⟨es, cl, hm⟩ := hgm
            have h0 := HN4.out
            rw [← e, hm] at h0
            cases h0
          exact ⟨⟨L2, rfl, by omega, by omega, HS4.out.kept (put5_other _ _ _ _ _ hpg) (put5_other _ _ _ _ _ hpm), five_put HN4.out⟩, below_put5 HW4.out hp.2 _ _ _ _ _⟩
        have HT1 : Hid (hasL L a1 = true → hasL L2 a1 = true ∧ ¬ (slotL L2 a1).seq < (slotL L a1).seq ∧ ((slotL L2 a1).seq = (slotL L a1).seq → (slotL L a1).opn = false → slotL L2 a1 = slotL L a1)) := HT.out
        clear HT HS4
        generalize hasL L2 a1 = has2 at *
        generalize hasL L a1 = has1 at *
        generalize slotL L2 a1 = s2 at *
        generalize slotL L a1 = s1 at *
        obtain ⟨q2, o2, t2, c2, n2⟩ := s2
        obtain ⟨q1, o1, t1, c1, n1⟩ := s1
        obtain ⟨c10, c11, c12, c13, c14⟩ := five_cells HN4.out
        obtain ⟨f10, f11, f12, f13, f14⟩ := five_frozen HN4.out
        obtain ⟨c20, c21, c22, c23, c24⟩ := five_cells HNW.out
        have hpn : p ≠ pn := by omega
        cases has1
        · go_wp2
          go_roundw
          case rel => exact ⟨k + 1, by go_num, by omega, (HFIN.out _ rfl).1, (HFIN.out _ rfl).2⟩
          case measure => simp [intOf]; omega
        obtain ⟨rfl, hlt2, heq2⟩ := HT1.out rfl
        simp only at hlt2 heq2
        have HEQ : Hid (q2 = q1 → o1 = false → (⟨q2, o2, t2, c2, n2⟩ : Slot) = ⟨q1, o1, t1, c1, n1⟩) := heq2
        clear heq2 HT1
        by_cases hq : q2 = q1
        rotate_left
        · have hqb : (q2 == q1) = false := by simp [hq]
          clear hq HEQ
          go_wp2
          go_roundw
          case rel => exact ⟨k + 1, by go_num, by omega, (HFIN.out _ rfl).1, (HFIN.out _ rfl).2⟩
          case measure => simp [intOf]; omega
        cases o1
        rotate_left
        · subst hq
          clear HEQ
          go_wp2
          go_roundw
          case rel => exact ⟨k + 1, by go_num, by omega, (HFIN.out _ rfl).1, (HFIN.out _ rfl).2⟩
          case measure => simp [intOf]; omega
        have he := HEQ.out hq rfl
        simp only [Slot.mk.injEq] at he
        obtain ⟨rfl, rfl, rfl, rfl, rfl⟩ := he
        have hne := neq_42 ⟨q2, false, t2, c2, n2⟩
        clear HEQ
        go_wp2
        go_roundw
        case rel => exact ⟨k + 1, by go_num, by omega, (HFIN.out _ rfl).1, (HFIN.out _ rfl).2⟩
        case measure => simp [intOf]; omega
    · go_wp2_with fail
      refine (awake_any wr).mono ?_
      rintro e w5 ⟨rfl, hb⟩
      have HBF : Hid (Below w.heap.size w w5) := HW.out.trans (hb.mono HW.out.size)
      clear hb
      go_wp2
      go_ret
      exact ⟨rfl, HBF.out⟩

/-! From the call to the statement. -/
set_option maxRecDepth 100000 in
theorem lifted (os : Os) (started : os.Started) (H : Type) (enc : TypeId × Value → H) :
    ReturnsInHanded {} Try.checked os 4 .any (Rows.sessionRisesSpec.pre6 enc Try.prog Try.f4 Rows.sessionRisesRow.domain false) (Rows.sessionRisesSpec.post enc Try.prog Try.f4 false true false false) := by
  refine returnsInHanded_of_change (C := Try.checked) own started (by kernel_rfl) Try.func4
    (ChangeSpec.witness6 (enc := enc) (C := Try.checked) false ⟨#[], #[.slice none 0 0, .int .i64 0], []⟩ 8 (by kernel_rfl) (by kernel_rfl) (by kernel_rfl) (by kernel_rfl)) ?_
  intro W base args ds gs before hval0 hW hcnd _
  have hval : ∀ (j : Nat) t v, Try.f4.params[j]? = some t → args[j]? = some v → Value.okWide Try.prog W .any base t v := hval0
  have hW' := hW
  obtain ⟨p, q, hA0, hV, rfl, hfz, hnd⟩ := hW
  have hA : DataW.TrodAll enc Try.prog W 0 (fun _ => true) true Try.f4.params.toList args.toList ds p := hA0
  rw [Try.params4] at hA hval
  obtain ⟨v0, vs0, d0, ds0, p0, q0, hargs, rfl, rfl, h0, r0⟩ := trodAll_cons hA
  obtain ⟨v1, vs1, d1, ds1, p1, q1, rfl, rfl, rfl, h1, r1⟩ := trodAll_cons r0
  obtain ⟨rfl, rfl, rfl⟩ := trodAll_nil r1
  obtain rfl : args = #[v0, v1] := by cases args; simp_all
  obtain ⟨rfl, rfl⟩ := trodVars_none hV
  obtain ⟨a0, len0, cap0, rfl⟩ := okWide_slice Try.underlying22 (hval 0 22 v0 rfl rfl)
  have k0 := h0
  have lt0 : ∀ x ∈ p0, x.block < W.heap.size := by obtain ⟨m, hm⟩ := k0; exact DataW.trod_lt m _ _ _ hm
  obtain ⟨O0, w0⟩ := open_lops h0
  obtain ⟨a1, rfl, rfl, rfl, w1⟩ := open_int Try.underlying3 (hval 1 3 v1 rfl rfl) h1
  clear hA0 hval0
  refine (walk a0 len0 cap0 O0 a1 W w0 w1).mono fun e W' ⟨he, bel⟩ => ?_
  subst he
  exact ⟨_, rfl, _, _, _, [], _, [], hW', trodAll_mk1 (shut_bool Try.underlying4 _), (trodAll_cons_mk (Below.trod laidOut (by kernel_rfl) (of_decide_eq_true (by kernel_rfl)) k0 bel lt0) (trodAll_cons_mk (shut_int Try.underlying3 w1) trodAll_mk0)), rfl, bel.frame _, fun h => by cases h⟩

theorem over : Rows.sessionRisesRow.holds Try.pinned (OpenSpec.ofChange Rows.sessionRisesSpec) :=
  OpenClaim.holds_of_wide 4 Try.f4 rfl rfl rfl rfl rfl rfl rfl ⟨rfl, rfl, rfl, rfl, rfl⟩ rfl rfl rfl rfl rfl (by kernel_rfl) Try.func4 (by kernel_rfl)
    (of_decide_eq_true (by kernel_rfl)) (by unfold Func.isWrapper; first | (rw [if_pos (by decide +kernel)]; kernel_rfl) | (rw [if_neg (by decide +kernel)]; exact ⟨rfl, rfl⟩))
    (fun os started H enc _ => lifted os started H enc)
end Go.Proofs.Ytophkidigajliaa.sessionRises
namespace Go.Proofs.Ytophkidigajliaa
theorem sessionRises_holds : Rows.SessionRisesSaid := sessionRises.over
#print axioms sessionRises_holds
end Go.Proofs.Ytophkidigajliaa
