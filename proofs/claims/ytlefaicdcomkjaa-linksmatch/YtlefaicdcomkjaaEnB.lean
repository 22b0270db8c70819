/- A transaction as the program's: a contract. -/
import Derived.Test.YtlefaicdcomkjaaEnA
namespace Go.Proofs.Ytlefaicdcomkjaa
open Go Go.RowKit
set_option linter.unusedVariables false
set_option linter.unusedSimpArgs false

set_option maxRecDepth 100000 in
set_option maxHeartbeats 8000000 in
theorem our_any (id : Id) (plain : Bool) (ra : Option Addr) (rn rc : Nat) (wa : Option Addr) (wn wc : Nat) (R : Nat → Rdv) (W : Nat → Wrv) (w : World) (hR : Rds w ra rn R) (hW : Wrs w wa wn W) :
    Calls Try.prog 43 #[.agg #[.int .i64 id.1, .int .u64 id.2, .bool plain, .slice ra rn rc, .slice wa wn wc]] w fun e w' => (∃ v1 v2, e = .returned (.agg #[.int .i64 id.1, .int .u64 id.2, .bool plain, v1, v2]) ∧ w'.ownsRow w.heap.size 95 2 v1 (tenR rn R).length ((tenR rn R).flatMap Rdv.cells) ∧ w'.ownsRow w.heap.size 98 3 v2 (tenW wn W).length ((tenW wn W).flatMap Wrv.cells)) ∧ Below w.heap.size w w' := by
  have hrn : rn ≤ maxLen := hR.1
  have hwn : wn ≤ maxLen := hW.1
  unfold maxLen at hrn hwn
  have b1 : Below w.heap.size w (((w.alloc (.cells #[.int .i64 id.1, .int .u64 id.2, .bool plain, .slice ra rn rc, .slice wa wn wc] 52)).alloc (.cells #[.int .i64 0, .int .u64 0, .bool false, .slice none 0 0, .slice none 0 0] 42)).alloc (.cells #[.int .i64 id.1, .int .u64 id.2, .bool plain, .slice none 0 0, .slice none 0 0] 42)) := (((Below.refl _ _).alloc (Nat.le_refl _) _).alloc (by simp) _).alloc (by simp; omega) _
  have n0 : (((w.alloc (.cells #[.int .i64 id.1, .int .u64 id.2, .bool plain, .slice ra rn rc, .slice wa wn wc] 52)).alloc (.cells #[.int .i64 0, .int .u64 0, .bool false, .slice none 0 0, .slice none 0 0] 42)).alloc (.cells #[.int .i64 id.1, .int .u64 id.2, .bool plain, .slice none 0 0, .slice none 0 0] 42)).heap[w.heap.size]? = some (.cells #[.int .i64 id.1, .int .u64 id.2, .bool plain, .slice ra rn rc, .slice wa wn wc] 52) := (heap_alloc_old _ _ (by simp; omega)).trans ((heap_alloc_old _ _ (by simp)).trans (heap_alloc_new w _))
  have n1 : (((w.alloc (.cells #[.int .i64 id.1, .int .u64 id.2, .bool plain, .slice ra rn rc, .slice wa wn wc] 52)).alloc (.cells #[.int .i64 0, .int .u64 0, .bool false, .slice none 0 0, .slice none 0 0] 42)).alloc (.cells #[.int .i64 id.1, .int .u64 id.2, .bool plain, .slice none 0 0, .slice none 0 0] 42)).heap[w.heap.size + 1]? = some (.cells #[.int .i64 0, .int .u64 0, .bool false, .slice none 0 0, .slice none 0 0] 42) := by
    have := heap_alloc_new (w.alloc (.cells #[.int .i64 id.1, .int .u64 id.2, .bool plain, .slice ra rn rc, .slice wa wn wc] 52)) (.cells #[.int .i64 0, .int .u64 0, .bool false, .slice none 0 0, .slice none 0 0] 42)
    rw [World.size_alloc] at this
    exact (heap_alloc_old _ _ (by simp)).trans this
  have n2 : (((w.alloc (.cells #[.int .i64 id.1, .int .u64 id.2, .bool plain, .slice ra rn rc, .slice wa wn wc] 52)).alloc (.cells #[.int .i64 0, .int .u64 0, .bool false, .slice none 0 0, .slice none 0 0] 42)).alloc (.cells #[.int .i64 id.1, .int .u64 id.2, .bool plain, .slice none 0 0, .slice none 0 0] 42)).heap[w.heap.size + 1 + 1]? = some (.cells #[.int .i64 id.1, .int .u64 id.2, .bool plain, .slice none 0 0, .slice none 0 0] 42) := by
    have := heap_alloc_new ((w.alloc (.cells #[.int .i64 id.1, .int .u64 id.2, .bool plain, .slice ra rn rc, .slice wa wn wc] 52)).alloc (.cells #[.int .i64 0, .int .u64 0, .bool false, .slice none 0 0, .slice none 0 0] 42)) (.cells #[.int .i64 id.1, .int .u64 id.2, .bool plain, .slice none 0 0, .slice none 0 0] 42)
    rwa [World.size_alloc, World.size_alloc] at this
  have HR : Hid (Rds w ra rn R) := hR
  have HW : Hid (Wrs w wa wn W) := hW
  have HB1 : Hid (Below w.heap.size w (((w.alloc (.cells #[.int .i64 id.1, .int .u64 id.2, .bool plain, .slice ra rn rc, .slice wa wn wc] 52)).alloc (.cells #[.int .i64 0, .int .u64 0, .bool false, .slice none 0 0, .slice none 0 0] 42)).alloc (.cells #[.int .i64 id.1, .int .u64 id.2, .bool plain, .slice none 0 0, .slice none 0 0] 42))) := b1
  have HN0 : Hid ((((w.alloc (.cells #[.int .i64 id.1, .int .u64 id.2, .bool plain, .slice ra rn rc, .slice wa wn wc] 52)).alloc (.cells #[.int .i64 0, .int .u64 0, .bool false, .slice none 0 0, .slice none 0 0] 42)).alloc (.cells #[.int .i64 id.1, .int .u64 id.2, .bool plain, .slice none 0 0, .slice none 0 0] 42)).heap[w.heap.size]? = some (.cells #[.int .i64 id.1, .int .u64 id.2, .bool plain, .slice ra rn rc, .slice wa wn wc] 52)) := n0
  have HN1 : Hid ((((w.alloc (.cells #[.int .i64 id.1, .int .u64 id.2, .bool plain, .slice ra rn rc, .slice wa wn wc] 52)).alloc (.cells #[.int .i64 0, .int .u64 0, .bool false, .slice none 0 0, .slice none 0 0] 42)).alloc (.cells #[.int .i64 id.1, .int .u64 id.2, .bool plain, .slice none 0 0, .slice none 0 0] 42)).heap[w.heap.size + 1]? = some (.cells #[.int .i64 0, .int .u64 0, .bool false, .slice none 0 0, .slice none 0 0] 42)) := n1
  have HN2 : Hid ((((w.alloc (.cells #[.int .i64 id.1, .int .u64 id.2, .bool plain, .slice ra rn rc, .slice wa wn wc] 52)).alloc (.cells #[.int .i64 0, .int .u64 0, .bool false, .slice none 0 0, .slice none 0 0] 42)).alloc (.cells #[.int .i64 id.1, .int .u64 id.2, .bool plain, .slice none 0 0, .slice none 0 0] 42)).heap[w.heap.size + 1 + 1]? = some (.cells #[.int .i64 id.1, .int .u64 id.2, .bool plain, .slice none 0 0, .slice none 0 0] 42)) := n2
  clear hR hW b1 n0 n1 n2
  go_enter Try.func43, Try.ntmps43
  go_wp2
  generalize ((w.alloc (.cells #[.int .i64 id.1, .int .u64 id.2, .bool plain, .slice ra rn rc, .slice wa wn wc] 52)).alloc (.cells #[.int .i64 0, .int .u64 0, .bool false, .slice none 0 0, .slice none 0 0] 42)).alloc (.cells #[.int .i64 id.1, .int .u64 id.2, .bool plain, .slice none 0 0, .slice none 0 0] 42) = w1 at *
  go_loopw [16] (fun t wr => ∃ k : Nat, t = .int .i64 (k : Nat) ∧ k ≤ rn ∧ Hid (∃ v, wr.heap[w.heap.size + 1 + 1]? = some (.cells #[.int .i64 id.1, .int .u64 id.2, .bool plain, v, .slice none 0 0] 42) ∧ wr.ownsRow w.heap.size 95 2 v (tenR k R).length ((tenR k R).flatMap Rdv.cells)) ∧ Hid (wr.heap[w.heap.size]? = some (.cells #[.int .i64 id.1, .int .u64 id.2, .bool plain, .slice ra rn rc, .slice wa wn wc] 52)) ∧ Hid (wr.heap[w.heap.size + 1]? = some (.cells #[.int .i64 0, .int .u64 0, .bool false, .slice none 0 0, .slice none 0 0] 42)) ∧ Hid (Below w.heap.size w wr)) (fun t _ => rn - (intOf t).toNat)
  case atStart => exact ⟨0, rfl, by omega, ⟨_, HN2.out, World.ownsRow_nil _ _ _ _⟩, HN0, HN1, HB1⟩
  case round =>
    clear HN0 HN1 HN2 HB1
    obtain ⟨k, rfl, hk, HV, HN0, HN1, HB⟩ := hrel
    obtain ⟨v, hv, ho⟩ := HV.out
    obtain ⟨va, vn, vc, rfl⟩ := owns_slice ho
    by_cases hlt : k < rn
    · obtain ⟨b, off, rfl, hc⟩ := (HR.out.later HB.out).at (by omega)
      obtain ⟨d0, d1⟩ := hc k hlt
      clear hc
      have HTN : k < 10 → tenR (k + 1) R = tenR k R ++ [R k] := tenR_next k R
      have HTF : 10 ≤ k → tenR (k + 1) R = tenR k R := tenR_full k R
      have hll := tenR_length k R
      generalize R k = x at d0 d1 HTN
      obtain ⟨xk, xn⟩ := x
      simp only at d0 d1
      by_cases h10 : k < 10
      · have hb3 : Below wr.heap.size wr ((wr.alloc (.cells #[.string xk, .int .u64 xn] 99)).alloc (.cells #[.string xk, .int .u64 xn] 95)) := ((Below.refl _ _).alloc (Nat.le_refl _) _).alloc (by simp) _
        have hg3 := heap_alloc_new (wr.alloc (.cells #[.string xk, .int .u64 xn] 99)) (.cells #[.string xk, .int .u64 xn] 95)
        rw [World.size_alloc] at hg3
        have hc3 := news_one Rdv.cells ⟨xk, xn⟩ hg3 rfl
        have t2 := owns_later ho hb3
        have g3 : ((wr.alloc (.cells #[.string xk, .int .u64 xn] 99)).alloc (.cells #[.string xk, .int .u64 xn] 95)).heap[w.heap.size + 1 + 1]? = some (.cells #[.int .i64 id.1, .int .u64 id.2, .bool plain, .slice va vn vc, .slice none 0 0] 42) := (hb3.block _ (Array.getElem?_eq_some_iff.1 hv).1).trans hv
        have o3 : wr.cell? ⟨w.heap.size + 1 + 1, 3, none⟩ = some (.slice va vn vc) := cell_of_heap hv rfl
        have HEQ : Hid (tenR (k + 1) R = tenR k R ++ [(⟨xk, xn⟩ : Rdv)]) := HTN h10
        have HM0 : Hid (((wr.alloc (.cells #[.string xk, .int .u64 xn] 99)).alloc (.cells #[.string xk, .int .u64 xn] 95)).heap[w.heap.size]? = some (.cells #[.int .i64 id.1, .int .u64 id.2, .bool plain, .slice (some ⟨b, off, none⟩) rn rc, .slice wa wn wc] 52)) := (hb3.block _ (Array.getElem?_eq_some_iff.1 HN0.out).1).trans HN0.out
        have HM1 : Hid (((wr.alloc (.cells #[.string xk, .int .u64 xn] 99)).alloc (.cells #[.string xk, .int .u64 xn] 95)).heap[w.heap.size + 1]? = some (.cells #[.int .i64 0, .int .u64 0, .bool false, .slice none 0 0, .slice none 0 0] 42)) := (hb3.block _ (Array.getElem?_eq_some_iff.1 HN1.out).1).trans HN1.out
        have HB3 : Hid (Below w.heap.size w ((wr.alloc (.cells #[.string xk, .int .u64 xn] 99)).alloc (.cells #[.string xk, .int .u64 xn] 95))) := HB.out.trans (hb3.mono HB.out.size)
        have hlt3 : w.heap.size + 1 + 1 < wr.heap.size := (Array.getElem?_eq_some_iff.1 hv).1
        have hbs : w.heap.size ≤ ((wr.alloc (.cells #[.string xk, .int .u64 xn] 99)).alloc (.cells #[.string xk, .int .u64 xn] 95)).heap.size := HB3.out.size
        have HOK : Hid (∀ v2 w2, w2.ownsRow w.heap.size 95 2 v2 (tenR k R ++ [(⟨xk, xn⟩ : Rdv)]).length ((tenR k R ++ [(⟨xk, xn⟩ : Rdv)]).flatMap Rdv.cells) → ((wr.alloc (.cells #[.string xk, .int .u64 xn] 99)).alloc (.cells #[.string xk, .int .u64 xn] 95)).grownBy w2 (Value.slice va vn vc).ownBlock → w2.heap[w.heap.size + 1 + 1]? = some (.cells #[.int .i64 id.1, .int .u64 id.2, .bool plain, .slice va vn vc, .slice none 0 0] 42) ∧ (w2.setCell ⟨w.heap.size + 1 + 1, 3, none⟩ v2).heap[w.heap.size + 1 + 1]? = some (.cells #[.int .i64 id.1, .int .u64 id.2, .bool plain, v2, .slice none 0 0] 42) ∧ (w2.setCell ⟨w.heap.size + 1 + 1, 3, none⟩ v2).ownsRow w.heap.size 95 2 v2 (tenR k R ++ [(⟨xk, xn⟩ : Rdv)]).length ((tenR k R ++ [(⟨xk, xn⟩ : Rdv)]).flatMap Rdv.cells) ∧ (w2.setCell ⟨w.heap.size + 1 + 1, 3, none⟩ v2).heap[w.heap.size]? = some (.cells #[.int .i64 id.1, .int .u64 id.2, .bool plain, .slice (some ⟨b, off, none⟩) rn rc, .slice wa wn wc] 52) ∧ (w2.setCell ⟨w.heap.size + 1 + 1, 3, none⟩ v2).heap[w.heap.size + 1]? = some (.cells #[.int .i64 0, .int .u64 0, .bool false, .slice none 0 0, .slice none 0 0] 42) ∧ Below w.heap.size w (w2.setCell ⟨w.heap.size + 1 + 1, 3, none⟩ v2)) := by
          intro v2 w2 q1 q2
          obtain ⟨r1, r2⟩ := put_beside 3 g3 (by decide) t2 q2 q1
          obtain ⟨r3, -⟩ := put_beside 3 HM0.out (by decide) t2 q2 q1
          obtain ⟨r4, -⟩ := put_beside 3 HM1.out (by decide) t2 q2 q1
          exact ⟨r1, five_set3 r1, r2, (Below.heap_setCell _ _ _ _ (by show w.heap.size ≠ w.heap.size + 1 + 1; omega)).trans r3, (Below.heap_setCell _ _ _ _ (by show w.heap.size + 1 ≠ w.heap.size + 1 + 1; omega)).trans r4, (HB3.out.grown q2 hbs (fun j hj => (World.ownsRow.lt t2 j hj).1)).setCell (by show w.heap.size ≤ w.heap.size + 1 + 1; omega) _⟩
        clear HTN HTF hb3 hg3 g3 HV hv ho HM0 HM1 HB3 HN0 HN1
        generalize tenR k R = LL at *
        go_wp2_with (at_builtin; refine wp_append_els Rdv.cells 2 24 39 95 _ Try.underlying39 Try.info_95 rfl (by decide) (fun _ => rfl) (by decide) rfl _ _ rfl w.heap.size _ LL rfl t2 _ 1 1 [(⟨xk, xn⟩ : Rdv)] rfl rfl hc3 (Rdv.one _) (by decide) (by omega) hbs ?_; intro v2 w2 ho2 hg2 hv2; obtain ⟨qa, qn, qc, rfl⟩ := owns_slice ho2; have hok := HOK.out _ w2 ho2 hg2; have HF : Hid ((w2.setCell ⟨w.heap.size + 1 + 1, 3, none⟩ (.slice qa qn qc)).heap[w.heap.size + 1 + 1]? = some (.cells #[.int .i64 id.1, .int .u64 id.2, .bool plain, .slice qa qn qc, .slice none 0 0] 42) ∧ (w2.setCell ⟨w.heap.size + 1 + 1, 3, none⟩ (.slice qa qn qc)).ownsRow w.heap.size 95 2 (.slice qa qn qc) (LL ++ [(⟨xk, xn⟩ : Rdv)]).length ((LL ++ [(⟨xk, xn⟩ : Rdv)]).flatMap Rdv.cells) ∧ (w2.setCell ⟨w.heap.size + 1 + 1, 3, none⟩ (.slice qa qn qc)).heap[w.heap.size]? = some (.cells #[.int .i64 id.1, .int .u64 id.2, .bool plain, .slice (some ⟨b, off, none⟩) rn rc, .slice wa wn wc] 52) ∧ (w2.setCell ⟨w.heap.size + 1 + 1, 3, none⟩ (.slice qa qn qc)).heap[w.heap.size + 1]? = some (.cells #[.int .i64 0, .int .u64 0, .bool false, .slice none 0 0, .slice none 0 0] 42) ∧ Below w.heap.size w (w2.setCell ⟨w.heap.size + 1 + 1, 3, none⟩ (.slice qa qn qc))) := hok.2; have z0 : w2.cell? ⟨w.heap.size + 1 + 1, 3, none⟩ = some (.slice va vn vc) := cell_of_heap hok.1 rfl; have z1 : w2.frozen? ⟨w.heap.size + 1 + 1, 3, none⟩ = false := frozen_of_row w2 _ _ _ _ hok.1; clear hok ho2 hg2 hv2 hc3 t2 HOK)
        go_roundw
        case rel => exact ⟨k + 1, by go_num, by omega, ⟨_, HF.out.1, by rw [HEQ.out]; exact HF.out.2.1⟩, HF.out.2.2.1, HF.out.2.2.2.1, HF.out.2.2.2.2⟩
        case measure => simp [intOf]; omega
      · have HEQ : Hid (tenR (k + 1) R = tenR k R) := HTF (by omega)
        have bx : Below wr.heap.size wr (wr.alloc (.cells #[.string xk, .int .u64 xn] 99)) := (Below.refl _ _).alloc (Nat.le_refl _) _
        have HF : Hid ((∃ v, (wr.alloc (.cells #[.string xk, .int .u64 xn] 99)).heap[w.heap.size + 1 + 1]? = some (.cells #[.int .i64 id.1, .int .u64 id.2, .bool plain, v, .slice none 0 0] 42) ∧ (wr.alloc (.cells #[.string xk, .int .u64 xn] 99)).ownsRow w.heap.size 95 2 v (tenR k R).length ((tenR k R).flatMap Rdv.cells)) ∧ (wr.alloc (.cells #[.string xk, .int .u64 xn] 99)).heap[w.heap.size]? = some (.cells #[.int .i64 id.1, .int .u64 id.2, .bool plain, .slice (some ⟨b, off, none⟩) rn rc, .slice wa wn wc] 52) ∧ (wr.alloc (.cells #[.string xk, .int .u64 xn] 99)).heap[w.heap.size + 1]? = some (.cells #[.int .i64 0, .int .u64 0, .bool false, .slice none 0 0, .slice none 0 0] 42) ∧ Below w.heap.size w (wr.alloc (.cells #[.string xk, .int .u64 xn] 99))) := ⟨⟨_, (bx.block _ (Array.getElem?_eq_some_iff.1 hv).1).trans hv, owns_later ho bx⟩, (bx.block _ (Array.getElem?_eq_some_iff.1 HN0.out).1).trans HN0.out, (bx.block _ (Array.getElem?_eq_some_iff.1 HN1.out).1).trans HN1.out, HB.out.trans (bx.mono HB.out.size)⟩
        clear HTN HTF bx HV hv ho
        go_wp2
        go_roundw
        case rel => exact ⟨k + 1, by go_num, by omega, by rw [HEQ.out]; exact HF.out.1, HF.out.2.1, HF.out.2.2.1, HF.out.2.2.2⟩
        case measure => simp [intOf]; omega
    · obtain rfl : rn = k := by omega
      have u4 : wr.cell? ⟨w.heap.size, 4, none⟩ = some (.slice wa wn wc) := cell_of_heap HN0.out rfl
      have HV1 : Hid (wr.heap[w.heap.size + 1 + 1]? = some (.cells #[.int .i64 id.1, .int .u64 id.2, .bool plain, .slice va vn vc, .slice none 0 0] 42) ∧ wr.ownsRow w.heap.size 95 2 (.slice va vn vc) (tenR rn R).length ((tenR rn R).flatMap Rdv.cells)) := ⟨hv, ho⟩
      clear HV hv ho
      go_wp2
      obtain ⟨fa, fn, fc, hfe⟩ : ∃ fa fn fc, Value.slice va vn vc = .slice fa fn fc := ⟨_, _, _, rfl⟩
      simp only [Value.slice.injEq] at hfe
      obtain ⟨rfl, rfl, rfl⟩ := hfe
      generalize hvf : va = fa at *
      generalize hvf2 : vn = fn at *
      generalize hvf3 : vc = fc at *
      clear hvf hvf2 hvf3
      generalize wr = wA at *
      go_loopw [37] (fun t wr => ∃ k : Nat, t = .int .i64 (k : Nat) ∧ k ≤ wn ∧ Hid (∃ v, wr.heap[w.heap.size + 1 + 1]? = some (.cells #[.int .i64 id.1, .int .u64 id.2, .bool plain, .slice fa fn fc, v] 42) ∧ wr.ownsRow w.heap.size 98 3 v (tenW k W).length ((tenW k W).flatMap Wrv.cells)) ∧ Hid (wr.heap[w.heap.size]? = some (.cells #[.int .i64 id.1, .int .u64 id.2, .bool plain, .slice ra rn rc, .slice wa wn wc] 52)) ∧ Hid (wr.heap[w.heap.size + 1]? = some (.cells #[.int .i64 0, .int .u64 0, .bool false, .slice none 0 0, .slice none 0 0] 42)) ∧ Hid (Below w.heap.size w wr) ∧ Hid (Fr w.heap.size [98, 42] wA wr)) (fun t _ => wn - (intOf t).toNat)
      case atStart => exact ⟨0, rfl, by omega, ⟨_, HV1.out.1, World.ownsRow_nil _ _ _ _⟩, HN0, HN1, HB, Fr.refl _ _ _⟩
      case round =>
        clear HN0 HN1 HB u4
        obtain ⟨k, rfl, hk, HV, HN0, HN1, HB, HFR⟩ := hrel
        obtain ⟨v, hv, ho⟩ := HV.out
        obtain ⟨va, vn, vc, rfl⟩ := owns_slice ho
        by_cases hlt : k < wn
        · obtain ⟨b, off, rfl, hc⟩ := (HW.out.later HB.out).at (by omega)
          obtain ⟨d0, d1, d2⟩ := hc k hlt
          clear hc
          have HTN : k < 10 → tenW (k + 1) W = tenW k W ++ [W k] := tenW_next k W
          have HTF : 10 ≤ k → tenW (k + 1) W = tenW k W := tenW_full k W
          have hll := tenW_length k W
          generalize W k = x at d0 d1 d2 HTN
          obtain ⟨xk, xv, xg⟩ := x
          simp only at d0 d1 d2
          by_cases h10 : k < 10
          · have hb3 : Below wr.heap.size wr ((wr.alloc (.cells #[.string xk, .string xv, .bool xg] 100)).alloc (.cells #[.string xk, .string xv, .bool xg] 98)) := ((Below.refl _ _).alloc (Nat.le_refl _) _).alloc (by simp) _
            have hg3 := heap_alloc_new (wr.alloc (.cells #[.string xk, .string xv, .bool xg] 100)) (.cells #[.string xk, .string xv, .bool xg] 98)
            rw [World.size_alloc] at hg3
            have hc3 := news_one Wrv.cells ⟨xk, xv, xg⟩ hg3 rfl
            have t2 := owns_later ho hb3
            have g3 : ((wr.alloc (.cells #[.string xk, .string xv, .bool xg] 100)).alloc (.cells #[.string xk, .string xv, .bool xg] 98)).heap[w.heap.size + 1 + 1]? = some (.cells #[.int .i64 id.1, .int .u64 id.2, .bool plain, .slice fa fn fc, .slice va vn vc] 42) := (hb3.block _ (Array.getElem?_eq_some_iff.1 hv).1).trans hv
            have o3 : wr.cell? ⟨w.heap.size + 1 + 1, 4, none⟩ = some (.slice va vn vc) := cell_of_heap hv rfl
            have HEQ : Hid (tenW (k + 1) W = tenW k W ++ [(⟨xk, xv, xg⟩ : Wrv)]) := HTN h10
            have HM0 : Hid (((wr.alloc (.cells #[.string xk, .string xv, .bool xg] 100)).alloc (.cells #[.string xk, .string xv, .bool xg] 98)).heap[w.heap.size]? = some (.cells #[.int .i64 id.1, .int .u64 id.2, .bool plain, .slice ra rn rc, .slice (some ⟨b, off, none⟩) wn wc] 52)) := (hb3.block _ (Array.getElem?_eq_some_iff.1 HN0.out).1).trans HN0.out
            have HM1 : Hid (((wr.alloc (.cells #[.string xk, .string xv, .bool xg] 100)).alloc (.cells #[.string xk, .string xv, .bool xg] 98)).heap[w.heap.size + 1]? = some (.cells #[.int .i64 0, .int .u64 0, .bool false, .slice none 0 0, .slice none 0 0] 42)) := (hb3.block _ (Array.getElem?_eq_some_iff.1 HN1.out).1).trans HN1.out
            have HB3 : Hid (Below w.heap.size w ((wr.alloc (.cells #[.string xk, .string xv, .bool xg] 100)).alloc (.cells #[.string xk, .string xv, .bool xg] 98))) := HB.out.trans (hb3.mono HB.out.size)
            have hlt3 : w.heap.size + 1 + 1 < wr.heap.size := (Array.getElem?_eq_some_iff.1 hv).1
            have hbs : w.heap.size ≤ ((wr.alloc (.cells #[.string xk, .string xv, .bool xg] 100)).alloc (.cells #[.string xk, .string xv, .bool xg] 98)).heap.size := HB3.out.size
            have HOK : Hid (∀ v2 w2, w2.ownsRow w.heap.size 98 3 v2 (tenW k W ++ [(⟨xk, xv, xg⟩ : Wrv)]).length ((tenW k W ++ [(⟨xk, xv, xg⟩ : Wrv)]).flatMap Wrv.cells) → ((wr.alloc (.cells #[.string xk, .string xv, .bool xg] 100)).alloc (.cells #[.string xk, .string xv, .bool xg] 98)).grownBy w2 (Value.slice va vn vc).ownBlock → w2.heap[w.heap.size + 1 + 1]? = some (.cells #[.int .i64 id.1, .int .u64 id.2, .bool plain, .slice fa fn fc, .slice va vn vc] 42) ∧ (w2.setCell ⟨w.heap.size + 1 + 1, 4, none⟩ v2).heap[w.heap.size + 1 + 1]? = some (.cells #[.int .i64 id.1, .int .u64 id.2, .bool plain, .slice fa fn fc, v2] 42) ∧ (w2.setCell ⟨w.heap.size + 1 + 1, 4, none⟩ v2).ownsRow w.heap.size 98 3 v2 (tenW k W ++ [(⟨xk, xv, xg⟩ : Wrv)]).length ((tenW k W ++ [(⟨xk, xv, xg⟩ : Wrv)]).flatMap Wrv.cells) ∧ (w2.setCell ⟨w.heap.size + 1 + 1, 4, none⟩ v2).heap[w.heap.size]? = some (.cells #[.int .i64 id.1, .int .u64 id.2, .bool plain, .slice ra rn rc, .slice (some ⟨b, off, none⟩) wn wc] 52) ∧ (w2.setCell ⟨w.heap.size + 1 + 1, 4, none⟩ v2).heap[w.heap.size + 1]? = some (.cells #[.int .i64 0, .int .u64 0, .bool false, .slice none 0 0, .slice none 0 0] 42) ∧ Below w.heap.size w (w2.setCell ⟨w.heap.size + 1 + 1, 4, none⟩ v2) ∧ Fr w.heap.size [98, 42] wA (w2.setCell ⟨w.heap.size + 1 + 1, 4, none⟩ v2)) := by
              intro v2 w2 q1 q2
              obtain ⟨r1, r2⟩ := put_beside 4 g3 (by decide) t2 q2 q1
              obtain ⟨r3, -⟩ := put_beside 4 HM0.out (by decide) t2 q2 q1
              obtain ⟨r4, -⟩ := put_beside 4 HM1.out (by decide) t2 q2 q1
              exact ⟨r1, five_set4 r1, r2, (Below.heap_setCell _ _ _ _ (by show w.heap.size ≠ w.heap.size + 1 + 1; omega)).trans r3, (Below.heap_setCell _ _ _ _ (by show w.heap.size + 1 ≠ w.heap.size + 1 + 1; omega)).trans r4, (HB3.out.grown q2 hbs (fun j hj => (World.ownsRow.lt t2 j hj).1)).setCell (by show w.heap.size ≤ w.heap.size + 1 + 1; omega) _, (HFR.out.trans (Fr.of hb3)).trans ((Fr.grown q2 (fun j hj => ⟨(World.ownsRow.lt t2 j hj).1, 98, by simp, owns_tag t2 j hj⟩)).trans (Fr.setCell _ (by show w.heap.size ≤ w.heap.size + 1 + 1; omega) (t := 42) (by simp) (tagOf_heap r1)))⟩
            clear HTN HTF hb3 hg3 g3 HV hv ho HM0 HM1 HB3 HN0 HN1
            generalize tenW k W = LL at *
            go_wp2_with (at_builtin; refine wp_append_els Wrv.cells 3 40 40 98 _ Try.underlying40 Try.info_98 rfl (by decide) (fun _ => rfl) (by decide) rfl _ _ rfl w.heap.size _ LL rfl t2 _ 1 1 [(⟨xk, xv, xg⟩ : Wrv)] rfl rfl hc3 (Wrv.one _) (by decide) (by omega) hbs ?_; intro v2 w2 ho2 hg2 hv2; obtain ⟨qa, qn, qc, rfl⟩ := owns_slice ho2; have hok := HOK.out _ w2 ho2 hg2; have HF : Hid ((w2.setCell ⟨w.heap.size + 1 + 1, 4, none⟩ (.slice qa qn qc)).heap[w.heap.size + 1 + 1]? = some (.cells #[.int .i64 id.1, .int .u64 id.2, .bool plain, .slice fa fn fc, .slice qa qn qc] 42) ∧ (w2.setCell ⟨w.heap.size + 1 + 1, 4, none⟩ (.slice qa qn qc)).ownsRow w.heap.size 98 3 (.slice qa qn qc) (LL ++ [(⟨xk, xv, xg⟩ : Wrv)]).length ((LL ++ [(⟨xk, xv, xg⟩ : Wrv)]).flatMap Wrv.cells) ∧ (w2.setCell ⟨w.heap.size + 1 + 1, 4, none⟩ (.slice qa qn qc)).heap[w.heap.size]? = some (.cells #[.int .i64 id.1, .int .u64 id.2, .bool plain, .slice ra rn rc, .slice (some ⟨b, off, none⟩) wn wc] 52) ∧ (w2.setCell ⟨w.heap.size + 1 + 1, 4, none⟩ (.slice qa qn qc)).heap[w.heap.size + 1]? = some (.cells #[.int .i64 0, .int .u64 0, .bool false, .slice none 0 0, .slice none 0 0] 42) ∧ Below w.heap.size w (w2.setCell ⟨w.heap.size + 1 + 1, 4, none⟩ (.slice qa qn qc)) ∧ Fr w.heap.size [98, 42] wA (w2.setCell ⟨w.heap.size + 1 + 1, 4, none⟩ (.slice qa qn qc))) := hok.2; have z0 : w2.cell? ⟨w.heap.size + 1 + 1, 4, none⟩ = some (.slice va vn vc) := cell_of_heap hok.1 rfl; have z1 : w2.frozen? ⟨w.heap.size + 1 + 1, 4, none⟩ = false := frozen_of_row w2 _ _ _ _ hok.1; clear hok ho2 hg2 hv2 hc3 t2 HOK)
            go_roundw
            case rel => exact ⟨k + 1, by go_num, by omega, ⟨_, HF.out.1, by rw [HEQ.out]; exact HF.out.2.1⟩, HF.out.2.2.1, HF.out.2.2.2.1, HF.out.2.2.2.2.1, HF.out.2.2.2.2.2⟩
            case measure => simp [intOf]; omega
          · have HEQ : Hid (tenW (k + 1) W = tenW k W) := HTF (by omega)
            have bx : Below wr.heap.size wr (wr.alloc (.cells #[.string xk, .string xv, .bool xg] 100)) := (Below.refl _ _).alloc (Nat.le_refl _) _
            have HF : Hid ((∃ v, (wr.alloc (.cells #[.string xk, .string xv, .bool xg] 100)).heap[w.heap.size + 1 + 1]? = some (.cells #[.int .i64 id.1, .int .u64 id.2, .bool plain, .slice fa fn fc, v] 42) ∧ (wr.alloc (.cells #[.string xk, .string xv, .bool xg] 100)).ownsRow w.heap.size 98 3 v (tenW k W).length ((tenW k W).flatMap Wrv.cells)) ∧ (wr.alloc (.cells #[.string xk, .string xv, .bool xg] 100)).heap[w.heap.size]? = some (.cells #[.int .i64 id.1, .int .u64 id.2, .bool plain, .slice ra rn rc, .slice (some ⟨b, off, none⟩) wn wc] 52) ∧ (wr.alloc (.cells #[.string xk, .string xv, .bool xg] 100)).heap[w.heap.size + 1]? = some (.cells #[.int .i64 0, .int .u64 0, .bool false, .slice none 0 0, .slice none 0 0] 42) ∧ Below w.heap.size w (wr.alloc (.cells #[.string xk, .string xv, .bool xg] 100)) ∧ Fr w.heap.size [98, 42] wA (wr.alloc (.cells #[.string xk, .string xv, .bool xg] 100))) := ⟨⟨_, (bx.block _ (Array.getElem?_eq_some_iff.1 hv).1).trans hv, owns_later ho bx⟩, (bx.block _ (Array.getElem?_eq_some_iff.1 HN0.out).1).trans HN0.out, (bx.block _ (Array.getElem?_eq_some_iff.1 HN1.out).1).trans HN1.out, HB.out.trans (bx.mono HB.out.size), HFR.out.trans (Fr.of bx)⟩
            clear HTN HTF bx HV hv ho
            go_wp2
            go_roundw
            case rel => exact ⟨k + 1, by go_num, by omega, by rw [HEQ.out]; exact HF.out.1, HF.out.2.1, HF.out.2.2.1, HF.out.2.2.2.1, HF.out.2.2.2.2⟩
            case measure => simp [intOf]; omega
        · obtain rfl : wn = k := by omega
          have HR79 := HFR.out.owns HV1.out.2 (by simp)
          have z0 : wr.cell? ⟨w.heap.size + 1 + 1, 0, none⟩ = some (.int .i64 id.1) := cell_of_heap hv rfl
          have z1 : wr.cell? ⟨w.heap.size + 1 + 1, 1, none⟩ = some (.int .u64 id.2) := cell_of_heap hv rfl
          have z2 : wr.cell? ⟨w.heap.size + 1 + 1, 2, none⟩ = some (.bool plain) := cell_of_heap hv rfl
          have z3 : wr.cell? ⟨w.heap.size + 1 + 1, 3, none⟩ = some (.slice fa fn fc) := cell_of_heap hv rfl
          have z4 : wr.cell? ⟨w.heap.size + 1 + 1, 4, none⟩ = some (.slice va vn vc) := cell_of_heap hv rfl
          have y0 : wr.cell? ⟨w.heap.size + 1, 0, none⟩ = some (.int .i64 0) := cell_of_heap HN1.out rfl
          have y1 : wr.cell? ⟨w.heap.size + 1, 1, none⟩ = some (.int .u64 0) := cell_of_heap HN1.out rfl
          have y2 : wr.cell? ⟨w.heap.size + 1, 2, none⟩ = some (.bool false) := cell_of_heap HN1.out rfl
          have y3 : wr.cell? ⟨w.heap.size + 1, 3, none⟩ = some (.slice none 0 0) := cell_of_heap HN1.out rfl
          have y4 : wr.cell? ⟨w.heap.size + 1, 4, none⟩ = some (.slice none 0 0) := cell_of_heap HN1.out rfl
          have f0 : wr.frozen? ⟨w.heap.size + 1, 0, none⟩ = false := frozen_of_row _ _ _ _ _ HN1.out
          have f1 : wr.frozen? ⟨w.heap.size + 1, 1, none⟩ = false := frozen_of_row _ _ _ _ _ HN1.out
          have f2 : wr.frozen? ⟨w.heap.size + 1, 2, none⟩ = false := frozen_of_row _ _ _ _ _ HN1.out
          have f3 : wr.frozen? ⟨w.heap.size + 1, 3, none⟩ = false := frozen_of_row _ _ _ _ _ HN1.out
          have f4 : wr.frozen? ⟨w.heap.size + 1, 4, none⟩ = false := frozen_of_row _ _ _ _ _ HN1.out
          have hn5 : (((((wr.setCell ⟨w.heap.size + 1, 0, none⟩ (.int .i64 id.1)).setCell ⟨w.heap.size + 1, 1, none⟩ (.int .u64 id.2)).setCell ⟨w.heap.size + 1, 2, none⟩ (.bool plain)).setCell ⟨w.heap.size + 1, 3, none⟩ (.slice fa fn fc)).setCell ⟨w.heap.size + 1, 4, none⟩ (.slice va vn vc)).heap[w.heap.size + 1]? = some (.cells #[.int .i64 id.1, .int .u64 id.2, .bool plain, .slice fa fn fc, .slice va vn vc] 42) := heap_setCell_same _ _ _ _ _ _ (heap_setCell_same _ _ _ _ _ _ (heap_setCell_same _ _ _ _ _ _ (heap_setCell_same _ _ _ _ _ _ (heap_setCell_same _ _ _ _ _ _ HN1.out))))
          have x0 : (((((wr.setCell ⟨w.heap.size + 1, 0, none⟩ (.int .i64 id.1)).setCell ⟨w.heap.size + 1, 1, none⟩ (.int .u64 id.2)).setCell ⟨w.heap.size + 1, 2, none⟩ (.bool plain)).setCell ⟨w.heap.size + 1, 3, none⟩ (.slice fa fn fc)).setCell ⟨w.heap.size + 1, 4, none⟩ (.slice va vn vc)).cell? ⟨w.heap.size + 1, 0, none⟩ = some (.int .i64 id.1) := cell_of_heap hn5 rfl
          have x1 : (((((wr.setCell ⟨w.heap.size + 1, 0, none⟩ (.int .i64 id.1)).setCell ⟨w.heap.size + 1, 1, none⟩ (.int .u64 id.2)).setCell ⟨w.heap.size + 1, 2, none⟩ (.bool plain)).setCell ⟨w.heap.size + 1, 3, none⟩ (.slice fa fn fc)).setCell ⟨w.heap.size + 1, 4, none⟩ (.slice va vn vc)).cell? ⟨w.heap.size + 1, 1, none⟩ = some (.int .u64 id.2) := cell_of_heap hn5 rfl
          have x2 : (((((wr.setCell ⟨w.heap.size + 1, 0, none⟩ (.int .i64 id.1)).setCell ⟨w.heap.size + 1, 1, none⟩ (.int .u64 id.2)).setCell ⟨w.heap.size + 1, 2, none⟩ (.bool plain)).setCell ⟨w.heap.size + 1, 3, none⟩ (.slice fa fn fc)).setCell ⟨w.heap.size + 1, 4, none⟩ (.slice va vn vc)).cell? ⟨w.heap.size + 1, 2, none⟩ = some (.bool plain) := cell_of_heap hn5 rfl
          have x3 : (((((wr.setCell ⟨w.heap.size + 1, 0, none⟩ (.int .i64 id.1)).setCell ⟨w.heap.size + 1, 1, none⟩ (.int .u64 id.2)).setCell ⟨w.heap.size + 1, 2, none⟩ (.bool plain)).setCell ⟨w.heap.size + 1, 3, none⟩ (.slice fa fn fc)).setCell ⟨w.heap.size + 1, 4, none⟩ (.slice va vn vc)).cell? ⟨w.heap.size + 1, 3, none⟩ = some (.slice fa fn fc) := cell_of_heap hn5 rfl
          have x4 : (((((wr.setCell ⟨w.heap.size + 1, 0, none⟩ (.int .i64 id.1)).setCell ⟨w.heap.size + 1, 1, none⟩ (.int .u64 id.2)).setCell ⟨w.heap.size + 1, 2, none⟩ (.bool plain)).setCell ⟨w.heap.size + 1, 3, none⟩ (.slice fa fn fc)).setCell ⟨w.heap.size + 1, 4, none⟩ (.slice va vn vc)).cell? ⟨w.heap.size + 1, 4, none⟩ = some (.slice va vn vc) := cell_of_heap hn5 rfl
          have hfr : Fr w.heap.size [42] wr (((((wr.setCell ⟨w.heap.size + 1, 0, none⟩ (.int .i64 id.1)).setCell ⟨w.heap.size + 1, 1, none⟩ (.int .u64 id.2)).setCell ⟨w.heap.size + 1, 2, none⟩ (.bool plain)).setCell ⟨w.heap.size + 1, 3, none⟩ (.slice fa fn fc)).setCell ⟨w.heap.size + 1, 4, none⟩ (.slice va vn vc)) := by
            have h0 := tagOf_heap HN1.out
            have k0 := HN1.out
            have k1 := heap_setCell_same wr _ 0 _ 42 (.int .i64 id.1) k0
            have k2 := heap_setCell_same _ _ 1 _ 42 (.int .u64 id.2) k1
            have k3 := heap_setCell_same _ _ 2 _ 42 (.bool plain) k2
            have k4 := heap_setCell_same _ _ 3 _ 42 (.slice fa fn fc) k3
            have hb : w.heap.size ≤ w.heap.size + 1 := by omega
            exact ((((Fr.setCell _ hb (t := 42) (by simp) (tagOf_heap k0)).trans (Fr.setCell _ hb (t := 42) (by simp) (tagOf_heap k1))).trans (Fr.setCell _ hb (t := 42) (by simp) (tagOf_heap k2))).trans (Fr.setCell _ hb (t := 42) (by simp) (tagOf_heap k3))).trans (Fr.setCell _ hb (t := 42) (by simp) (tagOf_heap k4))
          have HFIN : Hid ((((((wr.setCell ⟨w.heap.size + 1, 0, none⟩ (.int .i64 id.1)).setCell ⟨w.heap.size + 1, 1, none⟩ (.int .u64 id.2)).setCell ⟨w.heap.size + 1, 2, none⟩ (.bool plain)).setCell ⟨w.heap.size + 1, 3, none⟩ (.slice fa fn fc)).setCell ⟨w.heap.size + 1, 4, none⟩ (.slice va vn vc)).ownsRow w.heap.size 95 2 (.slice fa fn fc) (tenR rn R).length ((tenR rn R).flatMap Rdv.cells) ∧ (((((wr.setCell ⟨w.heap.size + 1, 0, none⟩ (.int .i64 id.1)).setCell ⟨w.heap.size + 1, 1, none⟩ (.int .u64 id.2)).setCell ⟨w.heap.size + 1, 2, none⟩ (.bool plain)).setCell ⟨w.heap.size + 1, 3, none⟩ (.slice fa fn fc)).setCell ⟨w.heap.size + 1, 4, none⟩ (.slice va vn vc)).ownsRow w.heap.size 98 3 (.slice va vn vc) (tenW wn W).length ((tenW wn W).flatMap Wrv.cells) ∧ Below w.heap.size w (((((wr.setCell ⟨w.heap.size + 1, 0, none⟩ (.int .i64 id.1)).setCell ⟨w.heap.size + 1, 1, none⟩ (.int .u64 id.2)).setCell ⟨w.heap.size + 1, 2, none⟩ (.bool plain)).setCell ⟨w.heap.size + 1, 3, none⟩ (.slice fa fn fc)).setCell ⟨w.heap.size + 1, 4, none⟩ (.slice va vn vc))) := ⟨hfr.owns HR79 (by simp), hfr.owns ho (by simp), HB.out.trans (hfr.below HB.out.size)⟩
          clear hfr HR79 hn5 hv ho HV HV1 HN0 HN1 HB HFR
          go_wp2
          refine bodyPost_ret (v := .agg #[.int .i64 id.1, .int .u64 id.2, .bool plain, .slice fa fn fc, .slice va vn vc]) (by simp [results, Try.results43, go_sem, x0, x1, x2, x3, x4]) rfl ?_
          exact ⟨⟨_, _, rfl, HFIN.out.1, HFIN.out.2.1⟩, HFIN.out.2.2⟩
end Go.Proofs.Ytlefaicdcomkjaa
