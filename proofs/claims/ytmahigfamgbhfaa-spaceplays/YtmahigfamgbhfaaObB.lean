/- Whether versions are an object's: the program's answer, and the document's own. -/
import Derived.Test.YtmahigfamgbhfaaObA
namespace Go.Proofs.Ytmahigfamgbhfaa
open Go.RowKit

/-- a variable that holds a version -/
def VarV (w : World) (p : Nat) (e : TypeId) (v : Ver) : Prop := w.heap[p]? = some (.cells #[.int .i64 v.pos, .int .u64 (v.num : Nat), .string v.val, .bool v.gone] e)
theorem VarV.cells {w : World} {p : Nat} {e : TypeId} {v : Ver} (h : VarV w p e v) : w.cell? ⟨p, 0, none⟩ = some (.int .i64 v.pos) ∧ w.cell? ⟨p, 1, none⟩ = some (.int .u64 (v.num : Nat)) ∧ w.cell? ⟨p, 2, none⟩ = some (.string v.val) ∧ w.cell? ⟨p, 3, none⟩ = some (.bool v.gone) :=
  ⟨cell_of_heap h rfl, cell_of_heap h rfl, cell_of_heap h rfl, cell_of_heap h rfl⟩
theorem VarV.free {w : World} {p : Nat} {e : TypeId} {v : Ver} (h : VarV w p e v) (k : Nat) : w.frozen? ⟨p, k, none⟩ = false := frozen_of_row w _ _ _ _ h
theorem VarV.lt {w : World} {p : Nat} {e : TypeId} {v : Ver} (h : VarV w p e v) : p < w.heap.size := (Array.getElem?_eq_some_iff.1 h).1
theorem VarV.later {w wx : World} {p : Nat} {e : TypeId} {v : Ver} (h : VarV w p e v) (hb : Below w.heap.size w wx) : VarV wx p e v := by
  unfold VarV
  rw [hb.block p h.lt]
  exact h
theorem VarV.set {w : World} {p : Nat} {e : TypeId} {v u : Ver} (h : VarV w p e v) :
    VarV ((((w.setCell ⟨p, 0, none⟩ (.int .i64 u.pos)).setCell ⟨p, 1, none⟩ (.int .u64 (u.num : Nat))).setCell ⟨p, 2, none⟩ (.string u.val)).setCell ⟨p, 3, none⟩ (.bool u.gone)) p e u :=
  heap_setCell_same _ _ _ _ _ _ (heap_setCell_same _ _ _ _ _ _ (heap_setCell_same _ _ _ _ _ _ (heap_setCell_same _ _ _ _ _ _ h)))
theorem below_set4 {w0 w : World} {n p : Nat} {a b c d : Value} (h : Below n w0 w) (hp : n ≤ p) : Below n w0 ((((w.setCell ⟨p, 0, none⟩ a).setCell ⟨p, 1, none⟩ b).setCell ⟨p, 2, none⟩ c).setCell ⟨p, 3, none⟩ d) :=
  (((h.setCell hp _).setCell hp _).setCell hp _).setCell hp _

set_option maxRecDepth 100000 in
set_option maxHeartbeats 4000000 in
theorem right_any (a : Option Addr) (n cap : Nat) (l : List Ver) (w : World) (hr : VRow w a n l) :
    Calls Try.prog 14 #[.agg #[.slice a n cap]] w fun e w' => e = .returned (.bool (rightL l)) ∧ Below w.heap.size w w' := by
  have hlen : n ≤ 9223372036854775807 := by have := hr.2.2.1; unfold maxLen at this; omega
  have HR : Hid (VRow w a n l) := hr
  clear hr
  go_enter Try.func14, Try.ntmps14
  go_wp2
  go_loopw [9] (fun t wr => ∃ k : Nat, t = .int .i64 (k : Nat) ∧ k ≤ n ∧ Hid (∀ i, i < k → okAt l i = true) ∧ Hid (Below w.heap.size w wr) ∧ Hid (VarV wr (w.heap.size + 1) 36 (ahead l k))) (fun t _ => n - (intOf t).toNat)
  case atStart => exact ⟨0, rfl, by omega, fun i hi => by omega, ((Below.refl _ _).alloc (Nat.le_refl _) _).alloc (by simp) _, by show (World.alloc _ _).heap[_]? = _; rw [← World.size_alloc w]; exact heap_alloc_new _ _⟩
  case round =>
    obtain ⟨k, rfl, hk, HK, HB, HV⟩ := hrel
    by_cases hlt : k < n
    · obtain ⟨b, off, rfl, hc⟩ := (HR.out.later HB.out).at (by omega)
      obtain ⟨c0, c1, c2, c3⟩ := hc k hlt
      clear hc
      obtain ⟨a0, a1, a2, a3⟩ := HV.out.cells
      have hbx : Below w.heap.size w (wr.alloc (.cells #[.int .i64 (nth l k).pos, .int .u64 ((nth l k).num : Nat), .string (nth l k).val, .bool (nth l k).gone] 36)) := HB.out.alloc HB.out.size _
      have HX : Hid (Below w.heap.size w (wr.alloc (.cells #[.int .i64 (nth l k).pos, .int .u64 ((nth l k).num : Nat), .string (nth l k).val, .bool (nth l k).gone] 36))) := hbx
      clear hbx
      have HF : Hid (okAt l k = false → rightL l = false) := fun h => by
        cases hr : rightL l with
        | false => rfl
        | true => rw [(rightL_iff l).1 hr k (by have := HR.out.1; omega)] at h; cases h
      have ho := HR.out.okn k
      have hx := ho.num
      have hs := ho.val
      have hy : (ahead l k).num < 18446744073709551616 := by
        unfold ahead; split
        · decide
        · exact (HR.out.okn _).num
      have HO : Hid (okAt l k = true ↔ ((k = 0 ∨ (nth l k).num = ((ahead l k).num + 1) % 18446744073709551616) ∧ (nth l k).num ≠ 0 ∧ (ahead l k).pos < (nth l k).pos ∧ may (nth l k).val (nth l k).gone = true)) := okAt_iff l k
      clear ho
      have HPX : Hid ((⟨(nth l k).pos, (nth l k).num, (nth l k).val, (nth l k).gone⟩ : Ver) = nth l k) := rfl
      generalize (nth l k).pos = p at *
      generalize (nth l k).num = x at *
      generalize (nth l k).val = s at *
      generalize (nth l k).gone = g at *
      have HVX : Hid (VarV (wr.alloc (.cells #[.int .i64 p, .int .u64 (x : Nat), .string s, .bool g] 36)) (w.heap.size + 1) 36 (ahead l k)) := HV.out.later ((Below.refl _ _).alloc (Nat.le_refl _) _)
      obtain ⟨b0, b1, b2, b3⟩ := HVX.out.cells
      have f0 := HVX.out.free 0
      have f1 := HVX.out.free 1
      have f2 := HVX.out.free 2
      have f3 := HVX.out.free 3
      by_cases h1 : 0 < k ∧ x ≠ ((ahead l k).num + 1) % 18446744073709551616
      · obtain ⟨h0, h1⟩ := h1
        have HE : Hid (rightL l = false) := by
          apply HF.out
          cases hh : okAt l k with
          | false => rfl
          | true => rcases (HO.out.1 hh).1 with h | h; (omega); exact absurd h h1
        clear HO HF
        by_cases hm : (ahead l k).num = 18446744073709551615
        · rw [hm] at a1 b1
          have hwr : IntKind.u64.wrap 18446744073709551616 = 0 := by decide
          have h2 : ¬ x = 0 := fun e => h1 (by rw [e, hm])
          have h3 : ((x : Int) == 0) = false := by simp; omega
          clear h1 hm hy
          go_wp2
          go_ret
          refine ⟨?_, HX.out⟩
          rw [HE.out]
          rfl
        · generalize (ahead l k).num = y at *
          have h2 : ¬ x = y + 1 := fun e => h1 (by rw [e, Nat.mod_eq_of_lt (by omega)])
          have h3 : ((x : Int) == (y : Int) + 1) = false := by simp; omega
          clear h1
          go_wp2
          go_ret
          refine ⟨?_, HX.out⟩
          rw [HE.out]
          rfl
      · have HN : Hid (k = 0 ∨ x = ((ahead l k).num + 1) % 18446744073709551616) := by
          by_cases h0 : k = 0
          · exact .inl h0
          · exact .inr (Decidable.not_not.1 fun e => h1 ⟨by omega, e⟩)
        clear h1
        by_cases h2 : x = 0
        · have HE : Hid (rightL l = false) := by
            apply HF.out
            cases hh : okAt l k with
            | false => rfl
            | true => exact absurd h2 (HO.out.1 hh).2.1
          have e1 : ((x : Int) == 0) = true := by simp [h2]
          have e2 : ((x : Int) != 0) = false := by simp [h2]
          have H2 : Hid (x = 0) := h2
          clear HO HF h2
          by_cases h0 : 0 < k
          · have hm : (ahead l k).num = 18446744073709551615 := by
              have := H2.out
              rcases HN.out with h | h
              · omega
              · omega
            rw [hm] at a1 b1
            have hwr : IntKind.u64.wrap 18446744073709551616 = 0 := by decide
            clear hm hy
            go_wp2
            go_ret
            refine ⟨?_, HX.out⟩
            rw [HE.out]
            rfl
          · go_wp2
            go_ret
            refine ⟨?_, HX.out⟩
            rw [HE.out]
            rfl
        · by_cases h3 : p ≤ (ahead l k).pos
          · have HE : Hid (rightL l = false) := by
              apply HF.out
              cases hh : okAt l k with
              | false => rfl
              | true => have := (HO.out.1 hh).2.2.1; omega
            clear HO HF
            generalize (ahead l k).pos = q at *
            by_cases h0 : 0 < k
            · have hm : x = (ahead l k).num + 1 := by rcases HN.out with h | h; (omega); omega
              generalize (ahead l k).num = y at *
              have h4 : ((x : Int) == (y : Int) + 1) = true := by simp; omega
              have h5 : y + 1 < 18446744073709551616 := by omega
              clear hm
              go_wp2
              go_ret
              refine ⟨?_, HX.out⟩
              rw [HE.out]
              rfl
            · go_wp2
              go_ret
              refine ⟨?_, HX.out⟩
              rw [HE.out]
              rfl
          · have hcm := mayStand_any s g (wr.alloc (.cells #[.int .i64 p, .int .u64 (x : Nat), .string s, .bool g] 36)) hs
            cases hmay : may s g
            · have HE : Hid (rightL l = false) := by
                apply HF.out
                cases hh : okAt l k with
                | false => rfl
                | true => have := (HO.out.1 hh).2.2.2; rw [hmay] at this; cases this
              rw [hmay] at hcm
              clear HO HF
              generalize (ahead l k).pos = q at *
              by_cases h0 : 0 < k
              · have hm : x = (ahead l k).num + 1 := by rcases HN.out with h | h; (omega); omega
                generalize (ahead l k).num = y at *
                have h4 : ((x : Int) == (y : Int) + 1) = true := by simp; omega
                have h5 : y + 1 < 18446744073709551616 := by omega
                clear hm
                go_wp2_with fail
                refine hcm.mono ?_
                rintro e w1 ⟨rfl, hw⟩
                subst w1
                go_wp2
                go_ret
                refine ⟨?_, HX.out⟩
                rw [HE.out]
                rfl
              · go_wp2_with fail
                refine hcm.mono ?_
                rintro e w1 ⟨rfl, hw⟩
                subst w1
                go_wp2
                go_ret
                refine ⟨?_, HX.out⟩
                rw [HE.out]
                rfl
            · rw [hmay] at hcm
              have HE : Hid (∀ i, i < k + 1 → okAt l i = true) := by
                intro i hi
                by_cases e : i = k
                · subst e
                  exact HO.out.2 ⟨HN.out, h2, by omega, hmay⟩
                · exact HK.out i (by omega)
              have HU : Hid (∀ W, VarV W (w.heap.size + 1) 36 ⟨p, x, s, g⟩ → VarV W (w.heap.size + 1) 36 (ahead l (k + 1))) := by
                intro W hW
                rw [ahead_succ]
                exact HPX.out ▸ hW
              clear HO HF hmay
              generalize (ahead l k).pos = q at *
              by_cases h0 : 0 < k
              · have hm : x = (ahead l k).num + 1 := by rcases HN.out with h | h; (omega); omega
                generalize (ahead l k).num = y at *
                have h4 : ((x : Int) == (y : Int) + 1) = true := by simp; omega
                have h5 : y + 1 < 18446744073709551616 := by omega
                clear hm
                go_wp2_with fail
                refine hcm.mono ?_
                rintro e w1 ⟨rfl, hw⟩
                subst w1
                go_wp2
                go_roundw
                case rel => exact ⟨k + 1, by go_num, by omega, HE.out, below_set4 HX.out (by omega), HU.out _ (VarV.set (u := ⟨p, x, s, g⟩) HVX.out)⟩
                case measure => simp [intOf]; omega
              · go_wp2_with fail
                refine hcm.mono ?_
                rintro e w1 ⟨rfl, hw⟩
                subst w1
                go_wp2
                go_roundw
                case rel => exact ⟨k + 1, by go_num, by omega, HE.out, below_set4 HX.out (by omega), HU.out _ (VarV.set (u := ⟨p, x, s, g⟩) HVX.out)⟩
                case measure => simp [intOf]; omega
    · have HE : Hid (rightL l = true) := (rightL_iff l).2 (fun i hi => HK.out i (by have := HR.out.1; omega))
      go_wp2
      go_ret
      refine ⟨?_, HB.out⟩
      rw [HE.out]
      rfl
end Go.Proofs.Ytmahigfamgbhfaa
