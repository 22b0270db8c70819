/- Whether versions are an object's: the document's own answer. -/
import Derived.Test.YtmahigfamgbhfaaObB
namespace Go.Proofs.Ytmahigfamgbhfaa
open Go.RowKit

theorem right_pos_upto {l : List Ver} {k : Nat} (h : ∀ i, i < k → okAt l i = true) : ∀ i, i < k → 1 ≤ (nth l i).pos := by
  intro i
  induction i with
  | zero =>
    intro hi
    have := ((okAt_iff l 0).1 (h 0 hi)).2.2.1
    rw [ahead_zero] at this
    simp [Ver.zero] at this
    omega
  | succ i ih =>
    intro hi
    have := ((okAt_iff l (i + 1)).1 (h (i + 1) hi)).2.2.1
    rw [ahead_succ] at this
    have := ih (by omega)
    omega

set_option maxRecDepth 100000 in
set_option maxHeartbeats 8000000 in
theorem ref_right_any9 (a : Option Addr) (n cap : Nat) (l : List Ver) (w : World) (hr : VRow w a n l) :
    Calls Try.prog 12 #[.slice a n cap] w fun e w' => e = .returned (.bool (rightL l)) ∧ Below w.heap.size w w' := by
  have hlen : n ≤ 9223372036854775807 := by have := hr.2.2.1; unfold maxLen at this; omega
  have HR : Hid (VRow w a n l) := hr
  clear hr
  go_enter Try.func12, Try.ntmps12
  go_wp2
  go_loopw [7] (fun t wr => ∃ k : Nat, t = .int .i64 (k : Nat) ∧ k ≤ n ∧ Hid (∀ i, i < k → okAt l i = true) ∧ Hid (Below w.heap.size w wr)) (fun t _ => n - (intOf t).toNat)
  case atStart => exact ⟨0, rfl, by omega, fun i hi => by omega, Below.refl _ _⟩
  case round =>
    obtain ⟨k, rfl, hk, HK, HB⟩ := hrel
    by_cases hlt : k < n
    · obtain ⟨b, off, rfl, hc⟩ := (HR.out.later HB.out).at (by omega)
      obtain ⟨c0, c1, c2, c3⟩ := hc k hlt
      have HX : Hid (Below w.heap.size w (wr.alloc (.cells #[.int .i64 (nth l k).pos, .int .u64 ((nth l k).num : Nat), .string (nth l k).val, .bool (nth l k).gone] 43))) := HB.out.alloc HB.out.size _
      have HF : Hid (okAt l k = false → rightL l = false) := fun h => by
        cases hr : rightL l with
        | false => rfl
        | true => rw [(rightL_iff l).1 hr k (by have := HR.out.1; omega)] at h; cases h
      have ho := HR.out.okn k
      have hx := ho.num
      have hs := ho.val
      have HO : Hid (okAt l k = true ↔ ((k = 0 ∨ (nth l k).num = ((ahead l k).num + 1) % 18446744073709551616) ∧ (nth l k).num ≠ 0 ∧ (ahead l k).pos < (nth l k).pos ∧ may (nth l k).val (nth l k).gone = true)) := okAt_iff l k
      clear ho
      have hcm := ref_may_any (nth l k).val (nth l k).gone (wr.alloc (.cells #[.int .i64 (nth l k).pos, .int .u64 ((nth l k).num : Nat), .string (nth l k).val, .bool (nth l k).gone] 43)) hs
      rcases Nat.eq_zero_or_pos k with rfl | hpos
      · clear hc
        rw [ahead_zero] at HO
        rw [Nat.zero_mul, Nat.add_zero] at c0 c1 c2 c3
        generalize (nth l 0).pos = p at *
        generalize (nth l 0).num = x at *
        generalize (nth l 0).val = s at *
        generalize (nth l 0).gone = g at *
        by_cases h1 : p < 1
        · clear hcm
          have HE : Hid (rightL l = false) := by
            apply HF.out
            cases hh : okAt l _ with
            | false => rfl
            | true =>
              have q := HO.out.1 hh
              exfalso
              have := q.2.2.1; simp [Ver.zero] at this; omega
          clear HO HF
          go_wp2
          go_ret
          refine ⟨?_, HX.out⟩
          rw [HE.out]
          rfl
        · by_cases h2 : x = 0
          · have e1 : ((x : Int) == 0) = true := by simp [h2]
            have H2 : Hid (x = 0) := h2
            clear hcm h2
            have HE : Hid (rightL l = false) := by
              apply HF.out
              cases hh : okAt l _ with
              | false => rfl
              | true =>
                have q := HO.out.1 hh
                exfalso
                exact q.2.1 H2.out
            clear HO HF
            go_wp2
            go_ret
            refine ⟨?_, HX.out⟩
            rw [HE.out]
            rfl
          · have e1 : ((x : Int) == 0) = false := by simp; omega
            cases hmay : may s g
            · rw [hmay] at hcm
              have HE : Hid (rightL l = false) := by
                apply HF.out
                cases hh : okAt l _ with
                | false => rfl
                | true =>
                  have q := HO.out.1 hh
                  exfalso
                  have := q.2.2.2; rw [hmay] at this; cases this
              clear HO HF
              go_wp2_with fail
              refine hcm.mono ?_
              rintro e w1 ⟨rfl, hw⟩
              subst w1
              go_wp2
              go_ret
              refine ⟨?_, HX.out⟩
              rw [HE.out]
              rfl
            · rw [hmay] at hcm
              have HE : Hid (∀ i, i < 0 + 1 → okAt l i = true) := by
                intro i hi
                by_cases e : i = 0
                · rw [e]
                  exact HO.out.2 ⟨.inl rfl, h2, by simp [Ver.zero]; omega, hmay⟩
                · exact HK.out i (by omega)
              clear HO HF
              go_wp2_with fail
              refine hcm.mono ?_
              rintro e w1 ⟨rfl, hw⟩
              subst w1
              go_wp2
              go_quiet (fail)
              go_wp2
              go_roundw
              case rel => exact ⟨0 + 1, by go_num, by omega, HE.out, below_drewN HX.out _⟩
              case measure => simp [intOf]; omega
      · obtain ⟨j, rfl⟩ : ∃ j, k = j + 1 := ⟨k - 1, by omega⟩
        obtain ⟨d0, d1, d2, d3⟩ := hc j (by omega)
        have HPX : Hid (VRow (wr.alloc (.cells #[.int .i64 (nth l (j + 1)).pos, .int .u64 ((nth l (j + 1)).num : Nat), .string (nth l (j + 1)).val, .bool (nth l (j + 1)).gone] 43)) (some ⟨b, off, none⟩) n l) := HR.out.later HX.out
        have e0 : (wr.alloc (.cells #[.int .i64 (nth l (j + 1)).pos, .int .u64 ((nth l (j + 1)).num : Nat), .string (nth l (j + 1)).val, .bool (nth l (j + 1)).gone] 43)).cell? ⟨b, off + j * 4, none⟩ = some (.int .i64 (nth l j).pos) := cell_later ((Below.refl _ _).alloc (Nat.le_refl _) _) d0
        have e1 : (wr.alloc (.cells #[.int .i64 (nth l (j + 1)).pos, .int .u64 ((nth l (j + 1)).num : Nat), .string (nth l (j + 1)).val, .bool (nth l (j + 1)).gone] 43)).cell? ⟨b, off + j * 4 + 1, none⟩ = some (.int .u64 ((nth l j).num : Nat)) := cell_later ((Below.refl _ _).alloc (Nat.le_refl _) _) d1
        clear hc hk hpos d0 d1 d2 d3
        rw [ahead_succ] at HO
        have hq : 1 ≤ (nth l j).pos := right_pos_upto HK.out j (by omega)
        have hy := (HR.out.okn j).num
        generalize (nth l j).pos = q0 at *
        generalize (nth l j).num = y at *
        generalize (nth l (j + 1)).pos = p at *
        generalize (nth l (j + 1)).num = x at *
        generalize (nth l (j + 1)).val = s at *
        generalize (nth l (j + 1)).gone = g at *
        by_cases h1 : p < 1
        · clear hcm
          have HE : Hid (rightL l = false) := by
            apply HF.out
            cases hh : okAt l _ with
            | false => rfl
            | true =>
              have q := HO.out.1 hh
              exfalso
              have := q.2.2.1; omega
          clear HO HF
          go_wp2
          go_ret
          refine ⟨?_, HX.out⟩
          rw [HE.out]
          rfl
        · by_cases h2 : x = 0
          · have e1 : ((x : Int) == 0) = true := by simp [h2]
            have H2 : Hid (x = 0) := h2
            clear hcm h2
            have HE : Hid (rightL l = false) := by
              apply HF.out
              cases hh : okAt l _ with
              | false => rfl
              | true =>
                have q := HO.out.1 hh
                exfalso
                exact q.2.1 H2.out
            clear HO HF
            go_wp2
            go_ret
            refine ⟨?_, HX.out⟩
            rw [HE.out]
            rfl
          · have e2 : ((x : Int) == 0) = false := by simp; omega
            cases hmay : may s g
            · rw [hmay] at hcm
              have HE : Hid (rightL l = false) := by
                apply HF.out
                cases hh : okAt l _ with
                | false => rfl
                | true =>
                  have q := HO.out.1 hh
                  exfalso
                  have := q.2.2.2; rw [hmay] at this; cases this
              clear HO HF
              go_wp2_with fail
              refine hcm.mono ?_
              rintro e w1 ⟨rfl, hw⟩
              subst w1
              go_wp2
              go_ret
              refine ⟨?_, HX.out⟩
              rw [HE.out]
              rfl
            · rw [hmay] at hcm
              by_cases h3 : p ≤ q0
              · have HE : Hid (rightL l = false) := by
                  apply HF.out
                  cases hh : okAt l _ with
                  | false => rfl
                  | true =>
                    have q := HO.out.1 hh
                    exfalso
                    have := q.2.2.1; omega
                clear HO HF
                go_wp2_with fail
                refine hcm.mono ?_
                rintro e w1 ⟨rfl, hw⟩
                subst w1
                go_wp2
                go_quiet (fail)
                go_wp2
                go_ret
                refine ⟨?_, below_drewN HX.out _⟩
                rw [HE.out]
                rfl
              · have e5 : decide (p ≤ q0) = false := by simp; omega
                by_cases h4 : y = 18446744073709551615
                · have e3 : ((y : Int) == 18446744073709551615) = true := by simp; omega
                  have HE : Hid (rightL l = false) := by
                    apply HF.out
                    cases hh : okAt l _ with
                    | false => rfl
                    | true =>
                      have q := HO.out.1 hh
                      exfalso
                      rcases q.1 with h | h; (omega); rw [h4] at h; exact h2 h
                  clear HO HF
                  clear h4
                  go_wp2_with fail
                  refine hcm.mono ?_
                  rintro e w1 ⟨rfl, hw⟩
                  subst w1
                  go_wp2
                  go_quiet (fail)
                  go_wp2
                  go_ret
                  refine ⟨?_, below_drewN HX.out _⟩
                  rw [HE.out]
                  rfl
                · have e3 : ((y : Int) == 18446744073709551615) = false := by simp; omega
                  have h6 : y + 1 < 18446744073709551616 := by omega
                  by_cases h5 : x = y + 1
                  · have e4 : ((x : Int) == (y : Int) + 1) = true := by simp; omega
                    have H5 : Hid (x = y + 1) := h5
                    clear h5
                    have HE : Hid (∀ i, i < (j + 1) + 1 → okAt l i = true) := by
                      intro i hi
                      by_cases e : i = (j + 1)
                      · rw [e]
                        exact HO.out.2 ⟨.inr (by have := H5.out; omega), h2, by omega, hmay⟩
                      · exact HK.out i (by omega)
                    clear HO HF
                    go_wp2_with fail
                    refine hcm.mono ?_
                    rintro e w1 ⟨rfl, hw⟩
                    subst w1
                    go_wp2
                    go_quiet (fail)
                    go_wp2
                    go_roundw
                    case rel => exact ⟨(j + 1) + 1, by go_num, by omega, HE.out, below_drewN HX.out _⟩
                    case measure => simp [intOf]; omega
                  · have e4 : ((x : Int) == (y : Int) + 1) = false := by simp; omega
                    have HE : Hid (rightL l = false) := by
                      apply HF.out
                      cases hh : okAt l _ with
                      | false => rfl
                      | true =>
                        have q := HO.out.1 hh
                        exfalso
                        rcases q.1 with h | h; (omega); omega
                    clear HO HF
                    go_wp2_with fail
                    refine hcm.mono ?_
                    rintro e w1 ⟨rfl, hw⟩
                    subst w1
                    go_wp2
                    go_quiet (fail)
                    go_wp2
                    go_ret
                    refine ⟨?_, below_drewN HX.out _⟩
                    rw [HE.out]
                    rfl
    · have HE : Hid (rightL l = true) := (rightL_iff l).2 (fun i hi => HK.out i (by have := HR.out.1; omega))
      go_wp2
      go_ret
      refine ⟨?_, HB.out⟩
      rw [HE.out]
      rfl
end Go.Proofs.Ytmahigfamgbhfaa
