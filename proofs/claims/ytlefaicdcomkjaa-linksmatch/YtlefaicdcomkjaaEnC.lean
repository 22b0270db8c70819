/- A transaction as the document's: a contract. -/
import Derived.Test.YtlefaicdcomkjaaEnB
namespace Go.Proofs.Ytlefaicdcomkjaa
open Go Go.RowKit
set_option linter.unusedVariables false
set_option linter.unusedSimpArgs false

set_option maxRecDepth 100000 in
set_option maxHeartbeats 8000000 in
theorem plain_ten (id : Id) (plain : Bool) (ra : Option Addr) (rn rc : Nat) (wa : Option Addr) (wn wc : Nat) (R : Nat → Rdv) (W : Nat → Wrv) (w : World) (hR : Rds w ra rn R) (hW : Wrs w wa wn W) (hr10 : rn ≤ 10) (hw10 : wn ≤ 10) :
    Calls Try.prog 38 #[.agg #[.int .i64 id.1, .int .u64 id.2, .bool plain, .slice ra rn rc, .slice wa wn wc]] w fun e w' => (∃ v1 v2, e = .returned (.agg #[.int .i64 id.1, .int .u64 id.2, .bool plain, v1, v2]) ∧ w'.ownsRow w.heap.size 99 2 v1 (tenR rn R).length ((tenR rn R).flatMap Rdv.cells) ∧ w'.ownsRow w.heap.size 100 3 v2 (tenW wn W).length ((tenW wn W).flatMap Wrv.cells)) ∧ Below w.heap.size w w' := by
  have hrn : rn ≤ maxLen := hR.1
  have hwn : wn ≤ maxLen := hW.1
  unfold maxLen at hrn hwn
  have b1 : Below w.heap.size w (((w.alloc (.cells #[.int .i64 id.1, .int .u64 id.2, .bool plain, .slice ra rn rc, .slice wa wn wc] 42)).alloc (.cells #[.int .i64 0, .int .u64 0, .bool false, .slice none 0 0, .slice none 0 0] 52)).alloc (.cells #[.int .i64 id.1, .int .u64 id.2, .bool plain, .slice none 0 0, .slice none 0 0] 52)) := (((Below.refl _ _).alloc (Nat.le_refl _) _).alloc (by simp) _).alloc (by simp; omega) _
  have n0 : (((w.alloc (.cells #[.int .i64 id.1, .int .u64 id.2, .bool plain, .slice ra rn rc, .slice wa wn wc] 42)).alloc (.cells #[.int .i64 0, .int .u64 0, .bool false, .slice none 0 0, .slice none 0 0] 52)).alloc (.cells #[.int .i64 id.1, .int .u64 id.2, .bool plain, .slice none 0 0, .slice none 0 0] 52)).heap[w.heap.size]? = some (.cells #[.int .i64 id.1, .int .u64 id.2, .bool plain, .slice ra rn rc, .slice wa wn wc] 42) := (heap_alloc_old _ _ (by simp; omega)).trans ((heap_alloc_old _ _ (by simp)).trans (heap_alloc_new w _))
  have n1 : (((w.alloc (.cells #[.int .i64 id.1, .int .u64 id.2, .bool plain, .slice ra rn rc, .slice wa wn wc] 42)).alloc (.cells #[.int .i64 0, .int .u64 0, .bool false, .slice none 0 0, .slice none 0 0] 52)).alloc (.cells #[.int .i64 id.1, .int .u64 id.2, .bool plain, .slice none 0 0, .slice none 0 0] 52)).heap[w.heap.size + 1]? = some (.cells #[.int .i64 0, .int .u64 0, .bool false, .slice none 0 0, .slice none 0 0] 52) := by
    have := heap_alloc_new (w.alloc (.cells #[.int .i64 id.1, .int .u64 id.2, .bool plain, .slice ra rn rc, .slice wa wn wc] 42)) (.cells #[.int .i64 0, .int .u64 0, .bool false, .slice none 0 0, .slice none 0 0] 52)
    rw [World.size_alloc] at this
    exact (heap_alloc_old _ _ (by simp)).trans this
  have n2 : (((w.alloc (.cells #[.int .i64 id.1, .int .u64 id.2, .bool plain, .slice ra rn rc, .slice wa wn wc] 42)).alloc (.cells #[.int .i64 0, .int .u64 0, .bool false, .slice none 0 0, .slice none 0 0] 52)).alloc (.cells #[.int .i64 id.1, .int .u64 id.2, .bool plain, .slice none 0 0, .slice none 0 0] 52)).heap[w.heap.size + 1 + 1]? = some (.cells #[.int .i64 id.1, .int .u64 id.2, .bool plain, .slice none 0 0, .slice none 0 0] 52) := by
    have := heap_alloc_new ((w.alloc (.cells #[.int .i64 id.1, .int .u64 id.2, .bool plain, .slice ra rn rc, .slice wa wn wc] 42)).alloc (.cells #[.int .i64 0, .int .u64 0, .bool false, .slice none 0 0, .slice none 0 0] 52)) (.cells #[.int .i64 id.1, .int .u64 id.2, .bool plain, .slice none 0 0, .slice none 0 0] 52)
    rwa [World.size_alloc, World.size_alloc] at this
  have HR : Hid (Rds w ra rn R) := hR
  have HW : Hid (Wrs w wa wn W) := hW
  have HB1 : Hid (Below w.heap.size w (((w.alloc (.cells #[.int .i64 id.1, .int .u64 id.2, .bool plain, .slice ra rn rc, .slice wa wn wc] 42)).alloc (.cells #[.int .i64 0, .int .u64 0, .bool false, .slice none 0 0, .slice none 0 0] 52)).alloc (.cells #[.int .i64 id.1, .int .u64 id.2, .bool plain, .slice none 0 0, .slice none 0 0] 52))) := b1
  have HN0 : Hid ((((w.alloc (.cells #[.int .i64 id.1, .int .u64 id.2, .bool plain, .slice ra rn rc, .slice wa wn wc] 42)).alloc (.cells #[.int .i64 0, .int .u64 0, .bool false, .slice none 0 0, .slice none 0 0] 52)).alloc (.cells #[.int .i64 id.1, .int .u64 id.2, .bool plain, .slice none 0 0, .slice none 0 0] 52)).heap[w.heap.size]? = some (.cells #[.int .i64 id.1, .int .u64 id.2, .bool plain, .slice ra rn rc, .slice wa wn wc] 42)) := n0
  have HN1 : Hid ((((w.alloc (.cells #[.int .i64 id.1, .int .u64 id.2, .bool plain, .slice ra rn rc, .slice wa wn wc] 42)).alloc (.cells #[.int .i64 0, .int .u64 0, .bool false, .slice none 0 0, .slice none 0 0] 52)).alloc (.cells #[.int .i64 id.1, .int .u64 id.2, .bool plain, .slice none 0 0, .slice none 0 0] 52)).heap[w.heap.size + 1]? = some (.cells #[.int .i64 0, .int .u64 0, .bool false, .slice none 0 0, .slice none 0 0] 52)) := n1
  have HN2 : Hid ((((w.alloc (.cells #[.int .i64 id.1, .int .u64 id.2, .bool plain, .slice ra rn rc, .slice wa wn wc] 42)).alloc (.cells #[.int .i64 0, .int .u64 0, .bool false, .slice none 0 0, .slice none 0 0] 52)).alloc (.cells #[.int .i64 id.1, .int .u64 id.2, .bool plain, .slice none 0 0, .slice none 0 0] 52)).heap[w.heap.size + 1 + 1]? = some (.cells #[.int .i64 id.1, .int .u64 id.2, .bool plain, .slice none 0 0, .slice none 0 0] 52)) := n2
  clear hR hW b1 n0 n1 n2
  go_enter Try.func38, Try.ntmps38
  go_wp2
  generalize ((w.alloc (.cells #[.int .i64 id.1, .int .u64 id.2, .bool plain, .slice ra rn rc, .slice wa wn wc] 42)).alloc (.cells #[.int .i64 0, .int .u64 0, .bool false, .slice none 0 0, .slice none 0 0] 52)).alloc (.cells #[.int .i64 id.1, .int .u64 id.2, .bool plain, .slice none 0 0, .slice none 0 0] 52) = w1 at *
  go_loopw [16] (fun t wr => ∃ k : Nat, t = .int .i64 (k : Nat) ∧ k ≤ rn ∧ Hid (∃ v, wr.heap[w.heap.size + 1 + 1]? = some (.cells #[.int .i64 id.1, .int .u64 id.2, .bool plain, v, .slice none 0 0] 52) ∧ wr.ownsRow w.heap.size 99 2 v (tenR k R).length ((tenR k R).flatMap Rdv.cells)) ∧ Hid (wr.heap[w.heap.size]? = some (.cells #[.int .i64 id.1, .int .u64 id.2, .bool plain, .slice ra rn rc, .slice wa wn wc] 42)) ∧ Hid (wr.heap[w.heap.size + 1]? = some (.cells #[.int .i64 0, .int .u64 0, .bool false, .slice none 0 0, .slice none 0 0] 52)) ∧ Hid (Below w.heap.size w wr)) (fun t _ => rn - (intOf t).toNat)
  case atStart => exact ⟨0, rfl, by omega, ⟨_, HN2.out, World.ownsRow_nil _ _ _ _⟩, HN0, HN1, HB1⟩
  case round =>
    clear HN0 HN1 HN2 HB1
    obtain ⟨k, rfl, hk, HV, HN0, HN1, HB⟩ := hrel
    obtain ⟨v, hv, ho⟩ := HV.out
    obtain ⟨va, vn, vc, rfl⟩ := owns_slice ho
    by_cases hlt : k < rn
    · obtain ⟨b, off, rfl, hc⟩ := (HR.out.later HB.out).at (by omega)
      obtain ⟨d0, d1⟩ := hc k hlt
      clear hc
      have HTN : k < 10 → tenR (k + 1) R = tenR k R ++ [R k] := tenR_next k R
      have HTF : 10 ≤ k → tenR (k + 1) R = tenR k R := tenR_full k R
      have hll := tenR_length k R
      generalize R k = x at d0 d1 HTN
      obtain ⟨xk, xn⟩ := x
      simp only at d0 d1
      have h10 : k < 10 := by omega
      · have hb3 : Below wr.heap.size wr ((wr.alloc (.cells #[.string xk, .int .u64 xn] 95)).alloc (.cells #[.string xk, .int .u64 xn] 99)) := ((Below.refl _ _).alloc (Nat.le_refl _) _).alloc (by simp) _
        have hg3 := heap_alloc_new (wr.alloc (.cells #[.string xk, .int .u64 xn] 95)) (.cells #[.string xk, .int .u64 xn] 99)
        rw [World.size_alloc] at hg3
        have hc3 := news_one Rdv.cells ⟨xk, xn⟩ hg3 rfl
        have t2 := owns_later ho hb3
        have g3 : ((wr.alloc (.cells #[.string xk, .int .u64 xn] 95)).alloc (.cells #[.string xk, .int .u64 xn] 99)).heap[w.heap.size + 1 + 1]? = some (.cells #[.int .i64 id.1, .int .u64 id.2, .bool plain, .slice va vn vc, .slice none 0 0] 52) := (hb3.block _ (Array.getElem?_eq_some_iff.1 hv).1).trans hv
        have o3 : wr.cell? ⟨w.heap.size + 1 + 1, 3, none⟩ = some (.slice va vn vc) := cell_of_heap hv rfl
        have HEQ : Hid (tenR (k + 1) R = tenR k R ++ [(⟨xk, xn⟩ : Rdv)]) := HTN h10
        have HM0 : Hid (((wr.alloc (.cells #[.string xk, .int .u64 xn] 95)).alloc (.cells #[.string xk, .int .u64 xn] 99)).heap[w.heap.size]? = some (.cells #[.int .i64 id.1, .int .u64 id.2, .bool plain, .slice (some ⟨b, off, none⟩) rn rc, .slice wa wn wc] 42)) := (hb3.block _ (Array.getElem?_eq_some_iff.1 HN0.out).1).trans HN0.out
        have HM1 : Hid (((wr.alloc (.cells #[.string xk, .int .u64 xn] 95)).alloc (.cells #[.string xk, .int .u64 xn] 99)).heap[w.heap.size + 1]? = some (.cells #[.int .i64 0, .int .u64 0, .bool false, .slice none 0 0, .slice none 0 0] 52)) := (hb3.block _ (Array.getElem?_eq_some_iff.1 HN1.out).1).trans HN1.out
        have HB3 : Hid (Below w.heap.size w ((wr.alloc (.cells #[.string xk, .int .u64 xn] 95)).alloc (.cells #[.string xk, .int .u64 xn] 99))) := HB.out.trans (hb3.mono HB.out.size)
        have hlt3 : w.heap.size + 1 + 1 < wr.heap.size := (Array.getElem?_eq_some_iff.1 hv).1
        have hbs : w.heap.size ≤ ((wr.alloc (.cells #[.string xk, .int .u64 xn] 95)).alloc (.cells #[.string xk, .int .u64 xn] 99)).heap.size := HB3.out.size
        have HOK : Hid (∀ v2 w2, w2.ownsRow w.heap.size 99 2 v2 (tenR k R ++ [(⟨xk, xn⟩ : Rdv)]).length ((tenR k R ++ [(⟨xk, xn⟩ : Rdv)]).flatMap Rdv.cells) → ((wr.alloc (.cells #[.string xk, .int .u64 xn] 95)).alloc (.cells #[.string xk, .int .u64 xn] 99)).grownBy w2 (Value.slice va vn vc).ownBlock → w2.heap[w.heap.size + 1 + 1]? = some (.cells #[.int .i64 id.1, .int .u64 id.2, .bool plain, .slice va vn vc, .slice none 0 0] 52) ∧ (w2.setCell ⟨w.heap.size + 1 + 1, 3, none⟩ v2).heap[w.heap.size + 1 + 1]? = some (.cells #[.int .i64 id.1, .int .u64 id.2, .bool plain, v2, .slice none 0 0] 52) ∧ (w2.setCell ⟨w.heap.size + 1 + 1, 3, none⟩ v2).ownsRow w.heap.size 99 2 v2 (tenR k R ++ [(⟨xk, xn⟩ : Rdv)]).length ((tenR k R ++ [(⟨xk, xn⟩ : Rdv)]).flatMap Rdv.cells) ∧ (w2.setCell ⟨w.heap.size + 1 + 1, 3, none⟩ v2).heap[w.heap.size]? = some (.cells #[.int .i64 id.1, .int .u64 id.2, .bool plain, .slice (some ⟨b, off, none⟩) rn rc, .slice wa wn wc] 42) ∧ (w2.setCell ⟨w.heap.size + 1 + 1, 3, none⟩ v2).heap[w.heap.size + 1]? = some (.cells #[.int .i64 0, .int .u64 0, .bool false, .slice none 0 0, .slice none 0 0] 52) ∧ Below w.heap.size w (w2.setCell ⟨w.heap.size + 1 + 1, 3, none⟩ v2)) := by
          intro v2 w2 q1 q2
          obtain ⟨r1, r2⟩ := put_beside 3 g3 (by decide) t2 q2 q1
          obtain ⟨r3, -⟩ := put_beside 3 HM0.out (by decide) t2 q2 q1
          obtain ⟨r4, -⟩ := put_beside 3 HM1.out (by decide) t2 q2 q1
          exact ⟨r1, five_set3 r1, r2, (Below.heap_setCell _ _ _ _ (by show w.heap.size ≠ w.heap.size + 1 + 1; omega)).trans r3, (Below.heap_setCell _ _ _ _ (by show w.heap.size + 1 ≠ w.heap.size + 1 + 1; omega)).trans r4, (HB3.out.grown q2 hbs (fun j hj => (World.ownsRow.lt t2 j hj).1)).setCell (by show w.heap.size ≤ w.heap.size + 1 + 1; omega) _⟩
        clear HTN HTF hb3 hg3 g3 HV hv ho HM0 HM1 HB3 HN0 HN1
        generalize tenR k R = LL at *
        go_wp2_with (at_builtin; refine wp_append_els Rdv.cells 2 24 49 99 _ Try.underlying49 Try.info_99 rfl (by decide) (fun _ => rfl) (by decide) rfl _ _ rfl w.heap.size _ LL rfl t2 _ 1 1 [(⟨xk, xn⟩ : Rdv)] rfl rfl hc3 (Rdv.one _) (by decide) (by omega) hbs ?_; intro v2 w2 ho2 hg2 hv2; obtain ⟨qa, qn, qc, rfl⟩ := owns_slice ho2; have hok := HOK.out _ w2 ho2 hg2; have HF : Hid ((w2.setCell ⟨w.heap.size + 1 + 1, 3, none⟩ (.slice qa qn qc)).heap[w.heap.size + 1 + 1]? = some (.cells #[.int .i64 id.1, .int .u64 id.2, .bool plain, .slice qa qn qc, .slice none 0 0] 52) ∧ (w2.setCell ⟨w.heap.size + 1 + 1, 3, none⟩ (.slice qa qn qc)).ownsRow w.heap.size 99 2 (.slice qa qn qc) (LL ++ [(⟨xk, xn⟩ : Rdv)]).length ((LL ++ [(⟨xk, xn⟩ : Rdv)]).flatMap Rdv.cells) ∧ (w2.setCell ⟨w.heap.size + 1 + 1, 3, none⟩ (.slice qa qn qc)).heap[w.heap.size]? = some (.cells #[.int .i64 id.1, .int .u64 id.2, .bool plain, .slice (some ⟨b, off, none⟩) rn rc, .slice wa wn wc] 42) ∧ (w2.setCell ⟨w.heap.size + 1 + 1, 3, none⟩ (.slice qa qn qc)).heap[w.heap.size + 1]? = some (.cells #[.int .i64 0, .int .u64 0, .bool false, .slice none 0 0, .slice none 0 0] 52) ∧ Below w.heap.size w (w2.setCell ⟨w.heap.size + 1 + 1, 3, none⟩ (.slice qa qn qc))) := hok.2; have z0 : w2.cell? ⟨w.heap.size + 1 + 1, 3, none⟩ = some (.slice va vn vc) := cell_of_heap hok.1 rfl; have z1 : w2.frozen? ⟨w.heap.size + 1 + 1, 3, none⟩ = false := frozen_of_row w2 _ _ _ _ hok.1; clear hok ho2 hg2 hv2 hc3 t2 HOK)
        go_roundw
        case rel => exact ⟨k + 1, by go_num, by omega, ⟨_, HF.out.1, by rw [HEQ.out]; exact HF.out.2.1⟩, HF.out.2.2.1, HF.out.2.2.2.1, HF.out.2.2.2.2⟩
        case measure => simp [intOf]; omega
    · obtain rfl : rn = k := by omega
      have u4 : wr.cell? ⟨w.heap.size, 4, none⟩ = some (.slice wa wn wc) := cell_of_heap HN0.out rfl
      have HV1 : Hid (wr.heap[w.heap.size + 1 + 1]? = some (.cells #[.int .i64 id.1, .int .u64 id.2, .bool plain, .slice va vn vc, .slice none 0 0] 52) ∧ wr.ownsRow w.heap.size 99 2 (.slice va vn vc) (tenR rn R).length ((tenR rn R).flatMap Rdv.cells)) := ⟨hv, ho⟩
      clear HV hv ho
      go_wp2
      obtain ⟨fa, fn, fc, hfe⟩ : ∃ fa fn fc, Value.slice va vn vc = .slice fa fn fc := ⟨_, _, _, rfl⟩
      simp only [Value.slice.injEq] at hfe
      obtain ⟨rfl, rfl, rfl⟩ := hfe
      generalize hvf : va = fa at *
      generalize hvf2 : vn = fn at *
      generalize hvf3 : vc = fc at *
      clear hvf hvf2 hvf3
      generalize wr = wA at *
      go_loopw [34] (fun t wr => ∃ k : Nat, t = .int .i64 (k : Nat) ∧ k ≤ wn ∧ Hid (∃ v, wr.heap[w.heap.size + 1 + 1]? = some (.cells #[.int .i64 id.1, .int .u64 id.2, .bool plain, .slice fa fn fc, v] 52) ∧ wr.ownsRow w.heap.size 100 3 v (tenW k W).length ((tenW k W).flatMap Wrv.cells)) ∧ Hid (wr.heap[w.heap.size]? = some (.cells #[.int .i64 id.1, .int .u64 id.2, .bool plain, .slice ra rn rc, .slice wa wn wc] 42)) ∧ Hid (wr.heap[w.heap.size + 1]? = some (.cells #[.int .i64 0, .int .u64 0, .bool false, .slice none 0 0, .slice none 0 0] 52)) ∧ Hid (Below w.heap.size w wr) ∧ Hid (Fr w.heap.size [100, 52] wA wr)) (fun t _ => wn - (intOf t).toNat)
      case atStart => exact ⟨0, rfl, by omega, ⟨_, HV1.out.1, World.ownsRow_nil _ _ _ _⟩, HN0, HN1, HB, Fr.refl _ _ _⟩
      case round =>
        clear HN0 HN1 HB u4
        obtain ⟨k, rfl, hk, HV, HN0, HN1, HB, HFR⟩ := hrel
        obtain ⟨v, hv, ho⟩ := HV.out
        obtain ⟨va, vn, vc, rfl⟩ := owns_slice ho
        by_cases hlt : k < wn
        · obtain ⟨b, off, rfl, hc⟩ := (HW.out.later HB.out).at (by omega)
          obtain ⟨d0, d1, d2⟩ := hc k hlt
          clear hc
          have HTN : k < 10 → tenW (k + 1) W = tenW k W ++ [W k] := tenW_next k W
          have HTF : 10 ≤ k → tenW (k + 1) W = tenW k W := tenW_full k W
          have hll := tenW_length k W
          generalize W k = x at d0 d1 d2 HTN
          obtain ⟨xk, xv, xg⟩ := x
          simp only at d0 d1 d2
          have h10 : k < 10 := by omega
          · have hb3 : Below wr.heap.size wr ((wr.alloc (.cells #[.string xk, .string xv, .bool xg] 98)).alloc (.cells #[.string xk, .string xv, .bool xg] 100)) := ((Below.refl _ _).alloc (Nat.le_refl _) _).alloc (by simp) _
            have hg3 := heap_alloc_new (wr.alloc (.cells #[.string xk, .string xv, .bool xg] 98)) (.cells #[.string xk, .string xv, .bool xg] 100)
            rw [World.size_alloc] at hg3
            have hc3 := news_one Wrv.cells ⟨xk, xv, xg⟩ hg3 rfl
            have t2 := owns_later ho hb3
            have g3 : ((wr.alloc (.cells #[.string xk, .string xv, .bool xg] 98)).alloc (.cells #[.string xk, .string xv, .bool xg] 100)).heap[w.heap.size + 1 + 1]? = some (.cells #[.int .i64 id.1, .int .u64 id.2, .bool plain, .slice fa fn fc, .slice va vn vc] 52) := (hb3.block _ (Array.getElem?_eq_some_iff.1 hv).1).trans hv
            have o3 : wr.cell? ⟨w.heap.size + 1 + 1, 4, none⟩ = some (.slice va vn vc) := cell_of_heap hv rfl
            have HEQ : Hid (tenW (k + 1) W = tenW k W ++ [(⟨xk, xv, xg⟩ : Wrv)]) := HTN h10
            have HM0 : Hid (((wr.alloc (.cells #[.string xk, .string xv, .bool xg] 98)).alloc (.cells #[.string xk, .string xv, .bool xg] 100)).heap[w.heap.size]? = some (.cells #[.int .i64 id.1, .int .u64 id.2, .bool plain, .slice ra rn rc, .slice (some ⟨b, off, none⟩) wn wc] 42)) := (hb3.block _ (Array.getElem?_eq_some_iff.1 HN0.out).1).trans HN0.out
            have HM1 : Hid (((wr.alloc (.cells #[.string xk, .string xv, .bool xg] 98)).alloc (.cells #[.string xk, .string xv, .bool xg] 100)).heap[w.heap.size + 1]? = some (.cells #[.int .i64 0, .int .u64 0, .bool false, .slice none 0 0, .slice none 0 0] 52)) := (hb3.block _ (Array.getElem?_eq_some_iff.1 HN1.out).1).trans HN1.out
            have HB3 : Hid (Below w.heap.size w ((wr.alloc (.cells #[.string xk, .string xv, .bool xg] 98)).alloc (.cells #[.string xk, .string xv, .bool xg] 100))) := HB.out.trans (hb3.mono HB.out.size)
            have hlt3 : w.heap.size + 1 + 1 < wr.heap.size := (Array.getElem?_eq_some_iff.1 hv).1
            have hbs : w.heap.size ≤ ((wr.alloc (.cells #[.string xk, .string xv, .bool xg] 98)).alloc (.cells #[.string xk, .string xv, .bool xg] 100)).heap.size := HB3.out.size
            have HOK : Hid (∀ v2 w2, w2.ownsRow w.heap.size 100 3 v2 (tenW k W ++ [(⟨xk, xv, xg⟩ : Wrv)]).length ((tenW k W ++ [(⟨xk, xv, xg⟩ : Wrv)]).flatMap Wrv.cells) → ((wr.alloc (.cells #[.string xk, .string xv, .bool xg] 98)).alloc (.cells #[.string xk, .string xv, .bool xg] 100)).grownBy w2 (Value.slice va vn vc).ownBlock → w2.heap[w.heap.size + 1 + 1]? = some (.cells #[.int .i64 id.1, .int .u64 id.2, .bool plain, .slice fa fn fc, .slice va vn vc] 52) ∧ (w2.setCell ⟨w.heap.size + 1 + 1, 4, none⟩ v2).heap[w.heap.size + 1 + 1]? = some (.cells #[.int .i64 id.1, .int .u64 id.2, .bool plain, .slice fa fn fc, v2] 52) ∧ (w2.setCell ⟨w.heap.size + 1 + 1, 4, none⟩ v2).ownsRow w.heap.size 100 3 v2 (tenW k W ++ [(⟨xk, xv, xg⟩ : Wrv)]).length ((tenW k W ++ [(⟨xk, xv, xg⟩ : Wrv)]).flatMap Wrv.cells) ∧ (w2.setCell ⟨w.heap.size + 1 + 1, 4, none⟩ v2).heap[w.heap.size]? = some (.cells #[.int .i64 id.1, .int .u64 id.2, .bool plain, .slice ra rn rc, .slice (some ⟨b, off, none⟩) wn wc] 42) ∧ (w2.setCell ⟨w.heap.size + 1 + 1, 4, none⟩ v2).heap[w.heap.size + 1]? = some (.cells #[.int .i64 0, .int .u64 0, .bool false, .slice none 0 0, .slice none 0 0] 52) ∧ Below w.heap.size w (w2.setCell ⟨w.heap.size + 1 + 1, 4, none⟩ v2) ∧ Fr w.heap.size [100, 52] wA (w2.setCell ⟨w.heap.size + 1 + 1, 4, none⟩ v2)) := by
              intro v2 w2 q1 q2
              obtain ⟨r1, r2⟩ := put_beside 4 g3 (by decide) t2 q2 q1
              obtain ⟨r3, -⟩ := put_beside 4 HM0.out (by decide) t2 q2 q1
              obtain ⟨r4, -⟩ := put_beside 4 HM1.out (by decide) t2 q2 q1
              exact ⟨r1, five_set4 r1, r2, (Below.heap_setCell _ _ _ _ (by show w.heap.size ≠ w.heap.size + 1 + 1; omega)).trans r3, (Below.heap_setCell _ _ _ _ (by show w.heap.size + 1 ≠ w.heap.size + 1 + 1; omega)).trans r4, (HB3.out.grown q2 hbs (fun j hj => (World.ownsRow.lt t2 j hj).1)).setCell (by show w.heap.size ≤ w.heap.size + 1 + 1; omega) _, (HFR.out.trans (Fr.of hb3)).trans ((Fr.grown q2 (fun j hj => ⟨(World.ownsRow.lt t2 j hj).1, 100, by simp, owns_tag t2 j hj⟩)).trans (Fr.setCell _ (by show w.heap.size ≤ w.heap.size + 1 + 1; omega) (t := 52) (by simp) (tagOf_heap r1)))⟩
            clear HTN HTF hb3 hg3 g3 HV hv ho HM0 HM1 HB3 HN0 HN1
            generalize tenW k W = LL at *
            go_wp2_with (at_builtin; refine wp_append_els Wrv.cells 3 40 50 100 _ Try.underlying50 Try.info_100 rfl (by decide) (fun _ => rfl) (by decide) rfl _ _ rfl w.heap.size _ LL rfl t2 _ 1 1 [(⟨xk, xv, xg⟩ : Wrv)] rfl rfl hc3 (Wrv.one _) (by decide) (by omega) hbs ?_; intro v2 w2 ho2 hg2 hv2; obtain ⟨qa, qn, qc, rfl⟩ := owns_slice ho2; have hok := HOK.out _ w2 ho2 hg2; have HF : Hid ((w2.setCell ⟨w.heap.size + 1 + 1, 4, none⟩ (.slice qa qn qc)).heap[w.heap.size + 1 + 1]? = some (.cells #[.int .i64 id.1, .int .u64 id.2, .bool plain, .slice fa fn fc, .slice qa qn qc] 52) ∧ (w2.setCell ⟨w.heap.size + 1 + 1, 4, none⟩ (.slice qa qn qc)).ownsRow w.heap.size 100 3 (.slice qa qn qc) (LL ++ [(⟨xk, xv, xg⟩ : Wrv)]).length ((LL ++ [(⟨xk, xv, xg⟩ : Wrv)]).flatMap Wrv.cells) ∧ (w2.setCell ⟨w.heap.size + 1 + 1, 4, none⟩ (.slice qa qn qc)).heap[w.heap.size]? = some (.cells #[.int .i64 id.1, .int .u64 id.2, .bool plain, .slice ra rn rc, .slice (some ⟨b, off, none⟩) wn wc] 42) ∧ (w2.setCell ⟨w.heap.size + 1 + 1, 4, none⟩ (.slice qa qn qc)).heap[w.heap.size + 1]? = some (.cells #[.int .i64 0, .int .u64 0, .bool false, .slice none 0 0, .slice none 0 0] 52) ∧ Below w.heap.size w (w2.setCell ⟨w.heap.size + 1 + 1, 4, none⟩ (.slice qa qn qc)) ∧ Fr w.heap.size [100, 52] wA (w2.setCell ⟨w.heap.size + 1 + 1, 4, none⟩ (.slice qa qn qc))) := hok.2; have z0 : w2.cell? ⟨w.heap.size + 1 + 1, 4, none⟩ = some (.slice va vn vc) := cell_of_heap hok.1 rfl; have z1 : w2.frozen? ⟨w.heap.size + 1 + 1, 4, none⟩ = false := frozen_of_row w2 _ _ _ _ hok.1; clear hok ho2 hg2 hv2 hc3 t2 HOK)
            go_roundw
            case rel => exact ⟨k + 1, by go_num, by omega, ⟨_, HF.out.1, by rw [HEQ.out]; exact HF.out.2.1⟩, HF.out.2.2.1, HF.out.2.2.2.1, HF.out.2.2.2.2.1, HF.out.2.2.2.2.2⟩
            case measure => simp [intOf]; omega
        · obtain rfl : wn = k := by omega
          have HR79 := HFR.out.owns HV1.out.2 (by simp)
          have z0 : wr.cell? ⟨w.heap.size + 1 + 1, 0, none⟩ = some (.int .i64 id.1) := cell_of_heap hv rfl
          have z1 : wr.cell? ⟨w.heap.size + 1 + 1, 1, none⟩ = some (.int .u64 id.2) := cell_of_heap hv rfl
          have z2 : wr.cell? ⟨w.heap.size + 1 + 1, 2, none⟩ = some (.bool plain) := cell_of_heap hv rfl
          have z3 : wr.cell? ⟨w.heap.size + 1 + 1, 3, none⟩ = some (.slice fa fn fc) := cell_of_heap hv rfl
          have z4 : wr.cell? ⟨w.heap.size + 1 + 1, 4, none⟩ = some (.slice va vn vc) := cell_of_heap hv rfl
          have y0 : wr.cell? ⟨w.heap.size + 1, 0, none⟩ = some (.int .i64 0) := cell_of_heap HN1.out rfl
          have y1 : wr.cell? ⟨w.heap.size + 1, 1, none⟩ = some (.int .u64 0) := cell_of_heap HN1.out rfl
          have y2 : wr.cell? ⟨w.heap.size + 1, 2, none⟩ = some (.bool false) := cell_of_heap HN1.out rfl
          have y3 : wr.cell? ⟨w.heap.size + 1, 3, none⟩ = some (.slice none 0 0) := cell_of_heap HN1.out rfl
          have y4 : wr.cell? ⟨w.heap.size + 1, 4, none⟩ = some (.slice none 0 0) := cell_of_heap HN1.out rfl
          have f0 : wr.frozen? ⟨w.heap.size + 1, 0, none⟩ = false := frozen_of_row _ _ _ _ _ HN1.out
          have f1 : wr.frozen? ⟨w.heap.size + 1, 1, none⟩ = false := frozen_of_row _ _ _ _ _ HN1.out
          have f2 : wr.frozen? ⟨w.heap.size + 1, 2, none⟩ = false := frozen_of_row _ _ _ _ _ HN1.out
          have f3 : wr.frozen? ⟨w.heap.size + 1, 3, none⟩ = false := frozen_of_row _ _ _ _ _ HN1.out
          have f4 : wr.frozen? ⟨w.heap.size + 1, 4, none⟩ = false := frozen_of_row _ _ _ _ _ HN1.out
          have hn5 : (((((wr.setCell ⟨w.heap.size + 1, 0, none⟩ (.int .i64 id.1)).setCell ⟨w.heap.size + 1, 1, none⟩ (.int .u64 id.2)).setCell ⟨w.heap.size + 1, 2, none⟩ (.bool plain)).setCell ⟨w.heap.size + 1, 3, none⟩ (.slice fa fn fc)).setCell ⟨w.heap.size + 1, 4, none⟩ (.slice va vn vc)).heap[w.heap.size + 1]? = some (.cells #[.int .i64 id.1, .int .u64 id.2, .bool plain, .slice fa fn fc, .slice va vn vc] 52) := heap_setCell_same _ _ _ _ _ _ (heap_setCell_same _ _ _ _ _ _ (heap_setCell_same _ _ _ _ _ _ (heap_setCell_same _ _ _ _ _ _ (heap_setCell_same _ _ _ _ _ _ HN1.out))))
          have x0 : (((((wr.setCell ⟨w.heap.size + 1, 0, none⟩ (.int .i64 id.1)).setCell ⟨w.heap.size + 1, 1, none⟩ (.int .u64 id.2)).setCell ⟨w.heap.size + 1, 2, none⟩ (.bool plain)).setCell ⟨w.heap.size + 1, 3, none⟩ (.slice fa fn fc)).setCell ⟨w.heap.size + 1, 4, none⟩ (.slice va vn vc)).cell? ⟨w.heap.size + 1, 0, none⟩ = some (.int .i64 id.1) := cell_of_heap hn5 rfl
          have x1 : (((((wr.setCell ⟨w.heap.size + 1, 0, none⟩ (.int .i64 id.1)).setCell ⟨w.heap.size + 1, 1, none⟩ (.int .u64 id.2)).setCell ⟨w.heap.size + 1, 2, none⟩ (.bool plain)).setCell ⟨w.heap.size + 1, 3, none⟩ (.slice fa fn fc)).setCell ⟨w.heap.size + 1, 4, none⟩ (.slice va vn vc)).cell? ⟨w.heap.size + 1, 1, none⟩ = some (.int .u64 id.2) := cell_of_heap hn5 rfl
          have x2 : (((((wr.setCell ⟨w.heap.size + 1, 0, none⟩ (.int .i64 id.1)).setCell ⟨w.heap.size + 1, 1, none⟩ (.int .u64 id.2)).setCell ⟨w.heap.size + 1, 2, none⟩ (.bool plain)).setCell ⟨w.heap.size + 1, 3, none⟩ (.slice fa fn fc)).setCell ⟨w.heap.size + 1, 4, none⟩ (.slice va vn vc)).cell? ⟨w.heap.size + 1, 2, none⟩ = some (.bool plain) := cell_of_heap hn5 rfl
          have x3 : (((((wr.setCell ⟨w.heap.size + 1, 0, none⟩ (.int .i64 id.1)).setCell ⟨w.heap.size + 1, 1, none⟩ (.int .u64 id.2)).setCell ⟨w.heap.size + 1, 2, none⟩ (.bool plain)).setCell ⟨w.heap.size + 1, 3, none⟩ (.slice fa fn fc)).setCell ⟨w.heap.size + 1, 4, none⟩ (.slice va vn vc)).cell? ⟨w.heap.size + 1, 3, none⟩ = some (.slice fa fn fc) := cell_of_heap hn5 rfl
          have x4 : (((((wr.setCell ⟨w.heap.size + 1, 0, none⟩ (.int .i64 id.1)).setCell ⟨w.heap.size + 1, 1, none⟩ (.int .u64 id.2)).setCell ⟨w.heap.size + 1, 2, none⟩ (.bool plain)).setCell ⟨w.heap.size + 1, 3, none⟩ (.slice fa fn fc)).setCell ⟨w.heap.size + 1, 4, none⟩ (.slice va vn vc)).cell? ⟨w.heap.size + 1, 4, none⟩ = some (.slice va vn vc) := cell_of_heap hn5 rfl
          have hfr : Fr w.heap.size [52] wr (((((wr.setCell ⟨w.heap.size + 1, 0, none⟩ (.int .i64 id.1)).setCell ⟨w.heap.size + 1, 1, none⟩ (.int .u64 id.2)).setCell ⟨w.heap.size + 1, 2, none⟩ (.bool plain)).setCell ⟨w.heap.size + 1, 3, none⟩ (.slice fa fn fc)).setCell ⟨w.heap.size + 1, 4, none⟩ (.slice va vn vc)) := by
            have h0 := tagOf_heap HN1.out
            have k0 := HN1.out
            have k1 := heap_setCell_same wr _ 0 _ 52 (.int .i64 id.1) k0
            have k2 := heap_setCell_same _ _ 1 _ 52 (.int .u64 id.2) k1
            have k3 := heap_setCell_same _ _ 2 _ 52 (.bool plain) k2
            have k4 := heap_setCell_same _ _ 3 _ 52 (.slice fa fn fc) k3
            have hb : w.heap.size ≤ w.heap.size + 1 := by omega
            exact ((((Fr.setCell _ hb (t := 52) (by simp) (tagOf_heap k0)).trans (Fr.setCell _ hb (t := 52) (by simp) (tagOf_heap k1))).trans (Fr.setCell _ hb (t := 52) (by simp) (tagOf_heap k2))).trans (Fr.setCell _ hb (t := 52) (by simp) (tagOf_heap k3))).trans (Fr.setCell _ hb (t := 52) (by simp) (tagOf_heap k4))
          have HFIN : Hid ((((((wr.setCell ⟨w.heap.size + 1, 0, none⟩ (.int .i64 id.1)).setCell ⟨w.heap.size + 1, 1, none⟩ (.int .u64 id.2)).setCell ⟨w.heap.size + 1, 2, none⟩ (.bool plain)).setCell ⟨w.heap.size + 1, 3, none⟩ (.slice fa fn fc)).setCell ⟨w.heap.size + 1, 4, none⟩ (.slice va vn vc)).ownsRow w.heap.size 99 2 (.slice fa fn fc) (tenR rn R).length ((tenR rn R).flatMap Rdv.cells) ∧ (((((wr.setCell ⟨w.heap.size + 1, 0, none⟩ (.int .i64 id.1)).setCell ⟨w.heap.size + 1, 1, none⟩ (.int .u64 id.2)).setCell ⟨w.heap.size + 1, 2, none⟩ (.bool plain)).setCell ⟨w.heap.size + 1, 3, none⟩ (.slice fa fn fc)).setCell ⟨w.heap.size + 1, 4, none⟩ (.slice va vn vc)).ownsRow w.heap.size 100 3 (.slice va vn vc) (tenW wn W).length ((tenW wn W).flatMap Wrv.cells) ∧ Below w.heap.size w (((((wr.setCell ⟨w.heap.size + 1, 0, none⟩ (.int .i64 id.1)).setCell ⟨w.heap.size + 1, 1, none⟩ (.int .u64 id.2)).setCell ⟨w.heap.size + 1, 2, none⟩ (.bool plain)).setCell ⟨w.heap.size + 1, 3, none⟩ (.slice fa fn fc)).setCell ⟨w.heap.size + 1, 4, none⟩ (.slice va vn vc))) := ⟨hfr.owns HR79 (by simp), hfr.owns ho (by simp), HB.out.trans (hfr.below HB.out.size)⟩
          clear hfr HR79 hn5 hv ho HV HV1 HN0 HN1 HB HFR
          go_wp2
          refine bodyPost_ret (v := .agg #[.int .i64 id.1, .int .u64 id.2, .bool plain, .slice fa fn fc, .slice va vn vc]) (by simp [results, Try.results38, go_sem, x0, x1, x2, x3, x4]) rfl ?_
          exact ⟨⟨_, _, rfl, HFIN.out.1, HFIN.out.2.1⟩, HFIN.out.2.2⟩
theorem tenR_list (l : List Rdv) (h : l.length ≤ 10) (d : Rdv) : tenR l.length (fun i => l[i]?.getD d) = l := by
  unfold tenR
  rw [Nat.min_eq_left h]
  apply List.ext_getElem
  · simp
  · intro i h1 h2
    simp [h2]
theorem tenW_list (l : List Wrv) (h : l.length ≤ 10) (d : Wrv) : tenW l.length (fun i => l[i]?.getD d) = l := by
  unfold tenW
  rw [Nat.min_eq_left h]
  apply List.ext_getElem
  · simp
  · intro i h1 h2
    simp [h2]
/-- reads, writes that were made lie somewhere -/
theorem owns_rds {w : World} {base : Nat} {e : TypeId} {v : Value} {l : List Rdv} (h : w.ownsRow base e 2 v l.length (l.flatMap Rdv.cells)) (d : Rdv) : ∃ a c, v = .slice a l.length c ∧ Rds w a l.length (fun i => l[i]?.getD d) := by
  obtain ⟨a, c, h1, h2, h3, -, h5⟩ := owns_at Rdv.cells 2 (fun _ => rfl) h
  refine ⟨a, c, h1, by omega, ?_⟩
  by_cases h0 : l.length = 0
  · exact .inl h0
  · obtain ⟨b, off, h6, h7⟩ := h5 (by omega)
    refine .inr ⟨b, off, h6, fun i hi => ?_⟩
    have hx : l[i]? = some (l[i]?.getD d) := by rw [List.getElem?_eq_getElem hi]; rfl
    exact ⟨h7 i _ hx 0 (by omega), h7 i _ hx 1 (by omega)⟩
theorem owns_wrs {w : World} {base : Nat} {e : TypeId} {v : Value} {l : List Wrv} (h : w.ownsRow base e 3 v l.length (l.flatMap Wrv.cells)) (d : Wrv) : ∃ a c, v = .slice a l.length c ∧ Wrs w a l.length (fun i => l[i]?.getD d) := by
  obtain ⟨a, c, h1, h2, h3, -, h5⟩ := owns_at Wrv.cells 3 (fun _ => rfl) h
  refine ⟨a, c, h1, by omega, ?_⟩
  by_cases h0 : l.length = 0
  · exact .inl h0
  · obtain ⟨b, off, h6, h7⟩ := h5 (by omega)
    refine .inr ⟨b, off, h6, fun i hi => ?_⟩
    have hx : l[i]? = some (l[i]?.getD d) := by rw [List.getElem?_eq_getElem hi]; rfl
    exact ⟨h7 i _ hx 0 (by omega), h7 i _ hx 1 (by omega), h7 i _ hx 2 (by omega)⟩
theorem plain_any (id : Id) (plain : Bool) (b1 : Nat) (v1 v2 : Value) (l1 : List Rdv) (l2 : List Wrv) (w : World) (h1 : w.ownsRow b1 95 2 v1 l1.length (l1.flatMap Rdv.cells)) (h2 : w.ownsRow b1 98 3 v2 l2.length (l2.flatMap Wrv.cells)) (hl1 : l1.length ≤ 10) (hl2 : l2.length ≤ 10) :
    Calls Try.prog 38 #[.agg #[.int .i64 id.1, .int .u64 id.2, .bool plain, v1, v2]] w fun e w' => (∃ u1 u2, e = .returned (.agg #[.int .i64 id.1, .int .u64 id.2, .bool plain, u1, u2]) ∧ w'.ownsRow w.heap.size 99 2 u1 l1.length (l1.flatMap Rdv.cells) ∧ w'.ownsRow w.heap.size 100 3 u2 l2.length (l2.flatMap Wrv.cells)) ∧ Below w.heap.size w w' := by
  obtain ⟨a, c, rfl, hR⟩ := owns_rds h1 ⟨⟨#[]⟩, 0⟩
  obtain ⟨a', c', rfl, hW⟩ := owns_wrs h2 ⟨⟨#[]⟩, ⟨#[]⟩, false⟩
  have := plain_ten id plain a l1.length c a' l2.length c' _ _ w hR hW hl1 hl2
  rw [tenR_list l1 hl1, tenW_list l2 hl2] at this
  exact this
end Go.Proofs.Ytlefaicdcomkjaa
