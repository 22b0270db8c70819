/- The program's Fits, Same; a log that is not there. -/
import Derived.Test.YtlefaicdcomkjaaLiD
namespace Go.Proofs.Ytlefaicdcomkjaa
open Go Go.RowKit
set_option linter.unusedVariables false
set_option linter.unusedSimpArgs false

theorem reachB_iff (n : Nat) (i : Int) : reachB n i = true ↔ 0 ≤ i ∧ i ≤ n := by simp [reachB]
theorem hasB_iff (n : Nat) (i : Int) : hasB n i = true ↔ 1 ≤ i ∧ i ≤ n := by simp [hasB]
def fitsB (L : List Ev) (prev ep : Int) : Bool := reachB L.length prev && (epL L prev == ep)
theorem fits_any (g : Nat) (ob : Option Nat) (L : List Ev) (prev ep : Int) (w : World) (h : Lg w g ob L) (hl : L.length ≤ 1000000) :
    Calls Try.prog 22 #[.pointer (some ⟨g, 0, none⟩), .int .i64 prev, .int .u64 ep] w fun e w' => e = .returned (.bool (fitsB L prev ep)) ∧ w' = w := by
  have h1 := reach_any g ob L prev w h
  have h2 := epoch_any g ob L prev w h hl
  have HE : Hid (fitsB L prev ep = (reachB L.length prev && (epL L prev == ep))) := rfl
  clear h
  generalize fitsB L prev ep = r at *
  generalize epL L prev = x at *
  cases hr : reachB L.length prev with
  | false =>
    rw [hr] at h1
    have HR : Hid (r = false) := by rw [Hid, HE.out, hr]; rfl
    clear hr h2
    go_enter Try.func22, Try.ntmps22
    go_wp2_with (first | (go_at_call 34; refine h1.mono ?_; rintro e w' ⟨rfl, rfl⟩) | fail)
    go_ret
    exact ⟨by rw [HR.out]; rfl, rfl⟩
  | true =>
    rw [hr] at h1
    have HR : Hid (r = (x == ep)) := by rw [Hid, HE.out, hr]; rfl
    clear hr
    go_enter Try.func22, Try.ntmps22
    go_wp2_with (first | (go_at_call 34; refine h1.mono ?_; rintro e w' ⟨rfl, rfl⟩) | (go_at_call 14; refine h2.mono ?_; rintro e w' ⟨rfl, rfl⟩) | fail)
    go_ret
    exact ⟨by rw [HR.out]; rfl, rfl⟩
theorem fits_nil (prev ep : Int) (w : World) : Calls Try.prog 22 #[.pointer none, .int .i64 prev, .int .u64 ep] w fun e w' => e = .returned (.bool false) ∧ w' = w := by
  go_enter Try.func22, Try.ntmps22
  go_wp2
  go_ret
  exact ⟨rfl, rfl⟩

theorem sameP_is : ∀ (A B : Lo) (k : Nat), (∀ i, i < k → ∃ a b, A[i]? = some a ∧ B[i]? = some b ∧ a.1 = b.1) → (B.length ≤ k ∨ A.length ≤ k ∨ ∃ a b, A[k]? = some a ∧ B[k]? = some b ∧ a.1 ≠ b.1) → sameP A B = k
  | [], B, k, h1, h2 => by
    cases k with
    | zero => simp [sameP]
    | succ k => obtain ⟨a, b, h, _⟩ := h1 0 (by omega); simp at h
  | a :: A, [], k, h1, h2 => by
    cases k with
    | zero => simp [sameP]
    | succ k => obtain ⟨a, b, _, h, _⟩ := h1 0 (by omega); simp at h
  | a :: A, b :: B, k, h1, h2 => by
    cases k with
    | zero =>
      rcases h2 with h2 | h2 | ⟨x, y, hx, hy, hne⟩
      · simp at h2
      · simp at h2
      · simp at hx hy
        subst hx hy
        unfold sameP
        rw [if_neg hne]
    | succ k =>
      obtain ⟨x, y, hx, hy, he⟩ := h1 0 (by omega)
      simp at hx hy
      subst hx hy
      unfold sameP
      rw [if_pos he, sameP_is A B k (fun i hi => by simpa using h1 (i + 1) (by omega)) (by simpa using h2)]
theorem lo_at {L : List Ev} {i : Nat} {e : Ev} (h : L[i]? = some e) : (loL L)[i]? = some (e.ep, e.id.2) := by rw [loL, List.getElem?_map, h]; rfl
theorem epL_at {L : List Ev} {i : Nat} {e : Ev} (h : L[i]? = some e) : epL L ((i : Nat) + 1) = e.ep := by
  have hi := (List.getElem?_eq_some_iff.1 h).1
  rw [epL, epoL, loL_length, if_pos (by omega), show (((i : Nat) + 1 : Int)).toNat - 1 = i by omega, lo_at h]
  rfl
theorem drewN_add (w : World) (a b : Nat) : (w.drewN a).drewN b = w.drewN (a + b) := by simp [World.drewN, Nat.add_assoc]
theorem drews_trans {w w1 : World} {d m : Nat} (h : w1 = w.drewN d) : ∃ n, w1.drewN m = w.drewN n := ⟨d + m, by rw [h, drewN_add]⟩
/-- what Same answers -/
def sameL (L : List Ev) (prev : Int) (P : List Ev) : Nat := if reachB L.length prev = true then sameP ((loL L).drop prev.toNat) (loL P) else 0
set_option maxRecDepth 100000 in
set_option maxHeartbeats 4000000 in
theorem same_any (g : Nat) (ob : Option Nat) (L : List Ev) (prev : Int) (pa : Option Addr) (pn pc : Nat) (P : List Ev) (w : World) (h : Lg w g ob L) (hl : L.length ≤ 1000000) (hP : At Ev.cells w pa P) (hn : pn = P.length) (hPl : P.length ≤ 1000000) (hwf : prev ≤ 9223372036854775807) :
    Calls Try.prog 23 #[.pointer (some ⟨g, 0, none⟩), .int .i64 prev, .slice pa pn pc] w fun e w' => e = .returned (.int .i64 (sameL L prev P : Nat)) ∧ ∃ n, w' = w.drewN n := by
  have h1 := reach_any g ob L prev w h
  cases hr : reachB L.length prev with
  | false =>
    rw [hr] at h1
    have HS : Hid (sameL L prev P = 0) := by rw [Hid, sameL, hr]; rfl
    clear hr
    go_enter Try.func23, Try.ntmps23
    go_wp2_with (first | (go_at_call 34; refine h1.mono ?_; rintro e w' ⟨rfl, rfl⟩) | fail)
    go_ret
    exact ⟨by rw [HS.out]; rfl, 0, rfl⟩
  | true =>
    rw [hr] at h1
    have h2 := (reachB_iff _ _).1 hr
    obtain ⟨q, rfl⟩ : ∃ q : Nat, prev = (q : Nat) := ⟨prev.toNat, by omega⟩
    have hq : q ≤ L.length := by omega
    have HS : Hid (∀ k, sameP ((loL L).drop q) (loL P) = k → sameL L (q : Nat) P = k) := fun k hk => by rw [sameL, hr, if_pos rfl]; exact hk
    have HL : Hid (Lg w g ob L) := h
    have HN : Hid (pn = P.length) := hn
    have HP : Hid (At Ev.cells w pa P) := hP
    have hpl2 : pn ≤ 1000000 := by omega
    clear hr h h2 hP hn hPl
    go_enter Try.func23, Try.ntmps23
    go_wp2_with (first | (go_at_call 34; refine h1.mono ?_; rintro e wz ⟨rfl, hwz⟩; subst wz) | fail)
    go_loopw [7] (fun t wr => ∃ k d : Nat, t = .int .i64 (k : Nat) ∧ k ≤ pn ∧ Hid (∀ i, i < k → ∃ a b, ((loL L).drop q)[i]? = some a ∧ (loL P)[i]? = some b ∧ a.1 = b.1) ∧ wr = w.drewN d) (fun t _ => pn - (intOf t).toNat)
    case atStart => exact ⟨0, 0, rfl, by omega, fun i hi => absurd hi (Nat.not_lt_zero i), rfl⟩
    case round =>
      obtain ⟨k, d, rfl, hk, HI, rfl⟩ := hrel
      have e1 : ((q : Nat) : Int) + (k : Nat) + 1 = ((q + k : Nat) : Nat) + 1 := by omega
      have hw1 : IntKind.i64.wrap (((q : Nat) : Int) + (k : Nat)) = ((q : Nat) : Int) + (k : Nat) := IntWalk.i64_in _ ⟨by omega, by omega⟩
      have hw2 : IntKind.i64.wrap (((q : Nat) : Int) + (k : Nat) + 1) = ((q : Nat) : Int) + (k : Nat) + 1 := IntWalk.i64_in _ ⟨by omega, by omega⟩
      have hL1 : Lg (w.drewN d) g ob L := HL.out.drews d
      have hP1 : At Ev.cells (w.drewN d) pa P := HP.out
      generalize hw1 : w.drewN d = w1 at hL1 hP1 ⊢
      have HW1 : Hid (w1 = w.drewN d) := hw1.symm
      have HL1 : Hid (Lg w1 g ob L) := hL1
      have HP1 : Hid (At Ev.cells w1 pa P) := hP1
      clear hw1 hL1 hP1
      by_cases hlt : k < pn
      · have HH : Hid (∀ n, Calls Try.prog 35 #[.pointer (some ⟨g, 0, none⟩), .int .i64 ((q : Nat) + (k : Nat) + 1)] (w1.drewN n) fun e w' => e = .returned (.bool (hasB L.length ((q : Nat) + (k : Nat) + 1))) ∧ w' = w1.drewN n) := fun n => has_any g ob L _ _ (HL1.out.drews n)
        have HEP : Hid (∀ n, Calls Try.prog 14 #[.pointer (some ⟨g, 0, none⟩), .int .i64 ((q : Nat) + (k : Nat) + 1)] (w1.drewN n) fun e w' => e = .returned (.int .u64 (epL L ((q : Nat) + (k : Nat) + 1))) ∧ w' = w1.drewN n) := fun n => epoch_any g ob L _ _ (HL1.out.drews n) hl
        have hkP : k < P.length := by rw [← HN.out]; exact hlt
        have hx : P[k]? = some P[k] := List.getElem?_eq_getElem hkP
        generalize P[k] = x at hx
        have HX : Hid (P[k]? = some x) := hx
        obtain ⟨b, off, rfl, c0⟩ : ∃ b off, pa = some ⟨b, off, none⟩ ∧ w1.cell? ⟨b, off + k * 10, none⟩ = some (.int .u64 x.ep) := by
          cases pa with
          | none => rw [HP1.out.1 rfl] at hx; simp at hx
          | some ad =>
            have hc := (HP1.out.2 ad rfl).2 (k * 10) (.int .u64 x.ep) (by
              have := flat_at Ev.cells 10 (fun _ => rfl) P k 0 x hx (by omega)
              rw [Nat.add_zero] at this
              rw [this]; rfl)
            obtain ⟨b, off, spot⟩ := ad
            obtain rfl : spot = none := (HP1.out.2 _ rfl).1
            rw [Addr.add_lit] at hc
            exact ⟨b, off, rfl, hc⟩
        clear hx hkP
        cases hh : hasB L.length ((q : Nat) + (k : Nat) + 1) with
        | false =>
          rw [hh] at HH
          have HK : Hid (sameL L (q : Nat) P = k) := HS.out k (sameP_is _ _ k HI.out (.inr (.inl (by
            have : ¬ (1 ≤ ((q : Nat) : Int) + (k : Nat) + 1 ∧ ((q : Nat) : Int) + (k : Nat) + 1 ≤ L.length) := fun hc => by rw [(hasB_iff _ _).2 hc] at hh; cases hh
            rw [List.length_drop, loL_length]; omega))))
          clear hh e1 HEP
          go_upto_region 4 with fail
          have hd : decide (((k : Nat) : Int) < (pn : Nat)) = true := by simp; omega
          go_quiet (first | with_reducible exact Calls.quiet_of_same (HH.out _))
          go_wp2
          go_ret
          exact ⟨by rw [HK.out]; rfl, drews_trans HW1.out⟩
        | true =>
          rw [hh] at HH
          have hqk : q + k < L.length := by have := ((hasB_iff _ _).1 hh).2; omega
          have hy : L[q + k]? = some L[q + k] := List.getElem?_eq_getElem hqk
          generalize L[q + k] = y at hy
          have HY : Hid (((loL L).drop q)[k]? = some (y.ep, y.id.2)) := by rw [Hid, List.getElem?_drop]; exact lo_at hy
          rw [e1, epL_at hy] at HEP
          rw [← e1] at HEP
          clear hh e1
          by_cases he : y.ep = x.ep
          · have HI2 : Hid (∀ i, i < k + 1 → ∃ a b, ((loL L).drop q)[i]? = some a ∧ (loL P)[i]? = some b ∧ a.1 = b.1) := fun i hi => by
              by_cases e : i = k
              · rw [e]; exact ⟨_, _, HY.out, lo_at HX.out, he⟩
              · exact HI.out i (by omega)
            have hb : (y.ep == x.ep) = true := by simp [he]
            clear he
            go_upto_region 4 with fail
            have hd : decide (((k : Nat) : Int) < (pn : Nat)) = true := by simp; omega
            go_quiet (first | with_reducible exact Calls.quiet_of_same (HH.out _) | with_reducible exact Calls.quiet_of_same (HEP.out _))
            go_wp2
            go_roundw
            case rel =>
              obtain ⟨n9, hn9⟩ := drews_trans HW1.out
              exact ⟨k + 1, n9, by go_num, by omega, HI2.out, hn9⟩
            case measure => simp [intOf]; omega
          · have HK : Hid (sameL L (q : Nat) P = k) := HS.out k (sameP_is _ _ k HI.out (.inr (.inr ⟨_, _, HY.out, lo_at HX.out, he⟩)))
            have hb : (y.ep == x.ep) = false := by simp [he]
            clear he
            go_upto_region 4 with fail
            have hd : decide (((k : Nat) : Int) < (pn : Nat)) = true := by simp; omega
            go_quiet (first | with_reducible exact Calls.quiet_of_same (HH.out _) | with_reducible exact Calls.quiet_of_same (HEP.out _))
            go_wp2
            go_ret
            exact ⟨by rw [HK.out]; rfl, drews_trans HW1.out⟩
      · have HK : Hid (sameL L (q : Nat) P = k) := HS.out k (sameP_is _ _ k HI.out (.inl (by rw [loL_length, ← HN.out]; omega)))
        clear e1
        go_upto_region 4 with fail
        have hd : decide (((k : Nat) : Int) < (pn : Nat)) = false := by simp; omega
        go_quiet (fail)
        go_wp2
        go_ret
        exact ⟨by rw [HK.out]; rfl, drews_trans HW1.out⟩
end Go.Proofs.Ytlefaicdcomkjaa
