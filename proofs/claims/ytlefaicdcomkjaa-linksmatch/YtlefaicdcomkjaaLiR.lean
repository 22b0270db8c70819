/- take: a contract. -/
import Derived.Test.YtlefaicdcomkjaaLiQ
namespace Go.Proofs.Ytlefaicdcomkjaa
open Go Go.RowKit
set_option linter.unusedVariables false
set_option linter.unusedSimpArgs false

theorem Kp.trans {w w1 w2 : World} {g : Nat} {ob ob1 : Option Nat} (h : Kp w w1 g ob) (k : Kp w1 w2 g ob1) (ho : ob1 = ob ∨ ∃ k', ob1 = some k' ∧ w.heap.size ≤ k') : Kp w w2 g ob := by
  refine ⟨k.os.trans h.os, k.tape.trans h.tape, k.output.trans h.output, Nat.le_trans h.size k.size, fun j hj h1 h2 => ?_⟩
  refine (k.block j (Nat.lt_of_lt_of_le hj h.size) h1 ?_).trans (h.block j hj h1 h2)
  rcases ho with rfl | ⟨k', rfl, hk'⟩
  · exact h2
  · intro e
    simp only [Option.some.injEq] at e
    omega
/-- what a log is behind a take -/
def newLog (A P : Lo) (prev : Nat) (ep : Int) : Lo := if fitsB (flatL A) prev ep = true ∧ sameP (A.drop prev) P < P.length then A.take (prev + sameP (A.drop prev) P) ++ P.drop (sameP (A.drop prev) P) else A
theorem last_le {A : Lo} {x : En} (h : (A ++ [x]).Pairwise (fun a b => a.1 ≤ b.1)) (hx : 1 ≤ x.1) : epoL A A.length ≤ x.1 := by
  unfold epoL
  split
  · rename_i hc
    have hl : A.length - 1 < A.length := by omega
    have e1 : ((A.length : Nat) : Int).toNat - 1 = A.length - 1 := by omega
    rw [e1, List.getElem?_eq_getElem hl]
    rw [List.pairwise_append] at h
    exact h.2.2 _ (List.getElem_mem hl) x (by simp)
  · omega
/-- what the rows of a whole tell of what comes next -/
theorem pre_of {X P : Lo} {n k : Nat} {ep s : Int} (h : (X ++ P.drop n).Pairwise (fun a b => a.1 ≤ b.1) ∧ (∀ e ∈ X ++ P.drop n, 1 ≤ e.1 ∧ 1 ≤ e.2) ∧ (X ++ P.drop n).length ≤ 400) (hx : P[n + k]? = some (ep, s)) :
    (X ++ (P.drop n).take k).length < 400 ∧ 1 ≤ ep ∧ 1 ≤ s ∧ epoL (X ++ (P.drop n).take k) (X ++ (P.drop n).take k).length ≤ ep ∧ X ++ (P.drop n).take k ++ [(ep, s)] = X ++ (P.drop n).take (k + 1) := by
  obtain ⟨h1, h2, h3⟩ := h
  have hd : (P.drop n)[k]? = some (ep, s) := by rw [List.getElem?_drop]; exact hx
  have e : X ++ (P.drop n).take k ++ [(ep, s)] = X ++ (P.drop n).take (k + 1) := by rw [List.take_add_one, hd, List.append_assoc]; rfl
  have hm := h2 (ep, s) (List.mem_append_right _ (List.mem_of_getElem? hd))
  have hsub : (X ++ (P.drop n).take (k + 1)).Sublist (X ++ P.drop n) := List.Sublist.append_left (List.take_sublist _ _) X
  have hp : (X ++ (P.drop n).take k ++ [(ep, s)]).Pairwise (fun a b => a.1 ≤ b.1) := by rw [e]; exact h1.sublist hsub
  refine ⟨?_, hm.1, hm.2, last_le hp hm.1, e⟩
  have := hsub.length_le
  rw [← e] at this
  simp only [List.length_append, List.length_cons, List.length_nil] at this h3 ⊢
  omega
set_option maxRecDepth 100000 in
set_option maxHeartbeats 16000000 in
theorem take_any (g : Nat) (ob : Option Nat) (A : Lo) (pa : Option Addr) (pn pc : Nat) (P : Lo) (prev : Nat) (ep : Int) (w : World) (h : Lg w g ob (flatL A)) (hA : A.length ≤ 400) (hP : w.ownsRow 0 45 10 (.slice pa pn pc) (flatL P).length ((flatL P).flatMap Ev.cells)) (hpb : ∀ k, (Value.slice pa pn pc).ownBlock = some k → k ≠ g ∧ some k ≠ ob) (hpl : P.length ≤ 400)
    (hr : (newLog A P prev ep).Pairwise (fun a b => a.1 ≤ b.1) ∧ (∀ e ∈ newLog A P prev ep, 1 ≤ e.1 ∧ 1 ≤ e.2) ∧ (newLog A P prev ep).length ≤ 400) (hpv : prev ≤ 400) :
    Calls Try.prog 28 #[.pointer (some ⟨g, 0, none⟩), .int .i64 (prev : Nat), .int .u64 ep, .slice pa pn pc] w fun e w' => e = .returned (.tuple #[]) ∧ ∃ ob', Lg w' g ob' (flatL (newLog A P prev ep)) ∧ Kp w w' g ob ∧ (ob' = ob ∨ ∃ k, ob' = some k ∧ w.heap.size ≤ k) := by
  have q1 := fits_any g ob (flatL A) prev ep w h (by rw [flatL_length]; omega)
  have q2 := same_any g ob (flatL A) prev pa pn pc (flatL P) w h (by rw [flatL_length]; omega) (At.of hP) (owns_len hP) (by rw [flatL_length]; omega) (by omega)
  have HL : Hid (Lg w g ob (flatL A)) := h
  have HP : Hid (w.ownsRow 0 45 10 (.slice pa pn pc) (flatL P).length ((flatL P).flatMap Ev.cells) ∧ ∀ k, (Value.slice pa pn pc).ownBlock = some k → k ≠ g ∧ some k ≠ ob) := ⟨hP, hpb⟩
  have HN : Hid (pn = P.length) := (owns_len hP).trans (flatL_length P)
  have hpn : pn ≤ 400 := by rw [HN.out]; exact hpl
  clear h hP hpb
  by_cases hf : fitsB (flatL A) prev ep = true
  · rw [hf] at q1
    have hreach : reachB (flatL A).length prev = true := by unfold fitsB at hf; simp only [Bool.and_eq_true] at hf; exact hf.1
    have hprev : prev ≤ A.length := by
      have := (reachB_iff _ _).1 hreach
      rw [flatL_length] at this
      omega
    have hsl : sameL (flatL A) prev (flatL P) = sameP (A.drop prev) P := by rw [sameL, if_pos hreach, loL_flat, loL_flat]; rfl
    rw [hsl] at q2
    obtain ⟨n, hn⟩ : ∃ n, sameP (A.drop prev) P = n := ⟨_, rfl⟩
    have HS : Hid (sameP (A.drop prev) P = n) := hn
    have HF : Hid (fitsB (flatL A) prev ep = true) := hf
    have hle := sameP_le (A.drop prev) P
    rw [hn, List.length_drop] at hle
    rw [hn] at q2
    have hnp : n ≤ pn := by rw [HN.out]; exact hle.2
    have hna : prev + n ≤ A.length := by omega
    clear hreach hsl hn hf hle
    have q3 := len_any g ob (flatL A) w HL.out
    rw [flatL_length] at q3
    obtain ⟨an, han⟩ : ∃ an, A.length = an := ⟨_, rfl⟩
    have HAN : Hid (A.length = an) := han
    rw [han] at q3 hna hA hprev
    clear han
    by_cases hlt : n < pn
    · have HR : Hid ((A.take (prev + n) ++ P.drop n).Pairwise (fun a b => a.1 ≤ b.1) ∧ (∀ e ∈ A.take (prev + n) ++ P.drop n, 1 ≤ e.1 ∧ 1 ≤ e.2) ∧ (A.take (prev + n) ++ P.drop n).length ≤ 400) := by
        rw [newLog, if_pos ⟨HF.out, by rw [HS.out, ← HN.out]; exact hlt⟩, HS.out] at hr
        exact hr
      clear hr
      have hd1 : decide (((n : Nat) : Int) < (pn : Nat)) = true := by simp; omega
      go_enter Try.func28, Try.ntmps28
      go_wp2_with fail
      refine q1.mono ?_
      clear q1
      rintro e wz ⟨rfl, hwz⟩
      subst wz
      go_wp2_with fail
      refine q2.mono ?_
      clear q2
      rintro e wz ⟨rfl, z, rfl⟩
      have q3 := len_any g ob (flatL A) (w.drewN z) (HL.out.drews z)
      rw [flatL_length, HAN.out] at q3
      have hkz : Kp w (w.drewN z) g ob := Kp.of (below_drewN (Below.refl _ _) z)
      by_cases hcut : prev + n < an
      · have hd2 : decide (((prev : Nat) : Int) + (n : Nat) < (an : Nat)) = true := by simp; omega
        have q4 := cut_any g ob (flatL A) (prev + n) (w.drewN z) (HL.out.drews z) (by rw [flatL_length, HAN.out]; omega) (by rw [flatL_length, HAN.out]; omega)
        rw [show (((prev + n : Nat)) : Int) = (prev : Int) + (n : Nat) by omega] at q4
        go_wp2_with fail
        refine q3.mono ?_
        clear q3
        rintro e wz ⟨rfl, hwz⟩
        subst wz
        go_wp2_with fail
        refine q4.mono ?_
        clear q4
        rintro e w2 ⟨rfl, hl2, hk2⟩
        have HL2 : Hid (Lg w2 g ob (flatL (A.take (prev + n))) ∧ Kp w w2 g ob) := ⟨by rw [flatL, List.map_take]; exact hl2, hkz.trans hk2 (.inl rfl)⟩
        clear hl2 hk2 hkz hd1 hd2 HL
        obtain ⟨q, rfl⟩ : ∃ q, pa = some ⟨q, 0, none⟩ := by
          rcases HP.out.1.2 with ⟨h0, _⟩ | ⟨q, cap, cur, hv, hg, hh, _⟩
          · simp only [Value.slice.injEq] at h0
            omega
          · simp only [Value.slice.injEq] at hv
            exact ⟨q, hv.1⟩
        have hpc : pn ≤ pc := owns_cap HP.out.1
        have hA : (if pc = n then (some ⟨q, 0, none⟩ : Option Addr) else some ⟨q, n * 10, none⟩) = some ⟨q, n * 10, none⟩ := if_neg (by omega)
        have i1 : n ≤ pn := by omega
        have i2 : ((n : Nat) : Int) ≤ (pn : Nat) := by omega
        have i3 : pn ≤ pc := hpc
        have i4 : (((pn - n : Nat)) : Int) = (pn : Int) - (n : Nat) := by omega
        generalize hX : A.take (prev + n) = X at *
        have HX : Hid (A.take (prev + n) = X) := hX
        clear hX
        go_wp2
        go_loopw [41] (fun i wr => ∃ k : Nat, i = .int .i64 (k : Nat) ∧ k ≤ pn - n ∧ Hid (∃ ob1, Lg wr g ob1 (flatL (X ++ (P.drop n).take k)) ∧ Kp w wr g ob ∧ (ob1 = ob ∨ ∃ k', ob1 = some k' ∧ w.heap.size ≤ k'))) (fun i _ => pn - n - (intOf i).toNat)
        case atStart => exact ⟨0, rfl, Nat.zero_le _, ob, by simpa using HL2.out.1, HL2.out.2, .inl rfl⟩
        case round =>
          obtain ⟨k, rfl, hk, HW⟩ := hrel
          obtain ⟨ob1, hl1, hk1, ho1⟩ := HW.out
          have HL1 : Hid (Lg wr g ob1 (flatL (X ++ (P.drop n).take k))) := hl1
          have HK1 : Hid (Kp w wr g ob) := hk1
          have HO1 : Hid (ob1 = ob ∨ ∃ k', ob1 = some k' ∧ w.heap.size ≤ k') := ho1
          clear HW hl1 hk1 ho1
          by_cases hlt : k < pn - n
          · have hpl : n + k < P.length := by have := HN.out; omega
            have hx : P[n + k]? = some P[n + k] := List.getElem?_eq_getElem hpl
            generalize P[n + k] = x at hx
            have hx2 : (flatL P)[n + k]? = some (flatE x) := by simp [flatL, hx]
            obtain ⟨b9, o9, e9, hcell⟩ := (At.of (owns_keep HK1.out HP.out.1 HP.out.2)).row hx2
            simp only [Option.some.injEq, Addr.mk.injEq] at e9
            obtain ⟨rfl, rfl, _⟩ := e9
            obtain ⟨ep2, s2⟩ := x
            have HXP : Hid (P[n + k]? = some (ep2, s2)) := hx
            have r0 : ∀ j, j < 10 → wr.cell? ⟨q, n * 10 + (k * 10 + j), none⟩ = (Ev.cells (flatE (ep2, s2)))[j]? := fun j hj => by rw [← hcell j hj]; congr 2; omega
            simp only [← Nat.add_assoc] at r0
            have d0 : wr.cell? ⟨q, n * 10 + k * 10, none⟩ = some (.int .u64 ep2) := r0 0 (by omega)
            have d1 : wr.cell? ⟨q, n * 10 + k * 10 + 1, none⟩ = some (.int .i64 2) := r0 1 (by omega)
            have d2 : wr.cell? ⟨q, n * 10 + k * 10 + 2, none⟩ = some (.int .i64 0) := r0 2 (by omega)
            have d3 : wr.cell? ⟨q, n * 10 + k * 10 + 3, none⟩ = some (.int .u64 0) := r0 3 (by omega)
            have d4 : wr.cell? ⟨q, n * 10 + k * 10 + 4, none⟩ = some (.bool false) := r0 4 (by omega)
            have d5 : wr.cell? ⟨q, n * 10 + k * 10 + 5, none⟩ = some (.slice none 0 0) := r0 5 (by omega)
            have d6 : wr.cell? ⟨q, n * 10 + k * 10 + 6, none⟩ = some (.slice none 0 0) := r0 6 (by omega)
            have d7 : wr.cell? ⟨q, n * 10 + k * 10 + 7, none⟩ = some (.int .i64 0) := r0 7 (by omega)
            have d8 : wr.cell? ⟨q, n * 10 + k * 10 + 8, none⟩ = some (.int .u64 s2) := r0 8 (by omega)
            have d9 : wr.cell? ⟨q, n * 10 + k * 10 + 9, none⟩ = some (.int .i64 0) := r0 9 (by omega)
            clear hcell r0 hx hx2 hpl
            have ha : Below wr.heap.size wr (wr.alloc (.cells #[.int .u64 ep2, .int .i64 2, .int .i64 0, .int .u64 0, .bool false, .slice none 0 0, .slice none 0 0, .int .i64 0, .int .u64 s2, .int .i64 0] 45)) := (Below.refl _ _).alloc (Nat.le_refl _) _
            have hxn := heap_alloc_new wr (.cells #[.int .u64 ep2, .int .i64 2, .int .i64 0, .int .u64 0, .bool false, .slice none 0 0, .slice none 0 0, .int .i64 0, .int .u64 s2, .int .i64 0] 45)
            have HL1A : Hid (Lg (wr.alloc (.cells #[.int .u64 ep2, .int .i64 2, .int .i64 0, .int .u64 0, .bool false, .slice none 0 0, .slice none 0 0, .int .i64 0, .int .u64 s2, .int .i64 0] 45)) g ob1 (flatL (X ++ (P.drop n).take k))) := HL1.out.later ha
            have HK1A : Hid (Kp w (wr.alloc (.cells #[.int .u64 ep2, .int .i64 2, .int .i64 0, .int .u64 0, .bool false, .slice none 0 0, .slice none 0 0, .int .i64 0, .int .u64 s2, .int .i64 0] 45)) g ob) := HK1.out.trans (Kp.of (g := g) (ob := ob) ha) (.inl rfl)
            clear ha HL1 HK1
            go_upto_region 7 with fail
            clear d0 d1 d2 d3 d4 d5 d6 d7 d8 d9
            generalize hw1 : wr.alloc (.cells #[.int .u64 ep2, .int .i64 2, .int .i64 0, .int .u64 0, .bool false, .slice none 0 0, .slice none 0 0, .int .i64 0, .int .u64 s2, .int .i64 0] 45) = w1 at *
            clear hw1
            obtain ⟨d0, d1, d2, d3, d4, d5, d6, d7, d8, d9⟩ := ten_cells hxn
            have hpre := pre_of HR.out HXP.out
            have hq := addF_any g ob1 (X ++ (P.drop n).take k) ep2 s2 _ w1 HL1A.out hpre.1 hpre.2.1 hpre.2.2.1 rfl hpre.2.2.2.1
            have HPRE : Hid (X ++ (P.drop n).take k ++ [(ep2, s2)] = X ++ (P.drop n).take (k + 1)) := hpre.2.2.2.2
            clear hxn hpre
            go_wp2_with fail
            refine hq.mono ?_
            clear hq d0 d1 d2 d3 d4 d5 d6 d7 d8 d9
            rintro e w3 ⟨rfl, ob3, hl3, hk3, ho3⟩
            have HW3 : Hid (∃ ob1, Lg w3 g ob1 (flatL (X ++ (P.drop n).take (k + 1))) ∧ Kp w w3 g ob ∧ (ob1 = ob ∨ ∃ k', ob1 = some k' ∧ w.heap.size ≤ k')) := by
              refine ⟨ob3, by rw [← HPRE.out]; exact hl3, HK1A.out.trans hk3 HO1.out, ?_⟩
              rcases ho3 with rfl | ⟨k', rfl, hk'⟩
              · exact HO1.out
              · exact .inr ⟨k', rfl, Nat.le_trans HK1A.out.size hk'⟩
            clear hl3 hk3 ho3
            go_wp2
            go_roundw
            case rel => exact ⟨k + 1, by go_num, by omega, HW3⟩
            case measure => simp [intOf]; omega
          · have hk2 : k = pn - n := by omega
            have HE : Hid (X ++ (P.drop n).take k = newLog A P prev ep) := by
              rw [Hid, newLog, if_pos ⟨HF.out, by rw [HS.out, ← HN.out]; omega⟩, HS.out, HX.out, List.take_of_length_le (by rw [List.length_drop, ← HN.out]; omega)]
            clear hk2
            go_wp2
            first | go_end0 | (refine bodyPost_ret (results_none rfl _ _ _) rfl ?_) | trace_state
            exact ⟨rfl, ob1, by rw [← HE.out]; exact HL1.out, HK1.out, HO1.out⟩
      · have hd2 : decide (((prev : Nat) : Int) + (n : Nat) < (an : Nat)) = false := by simp; omega
        have HL2 : Hid (Lg (w.drewN z) g ob (flatL (A.take (prev + n))) ∧ Kp w (w.drewN z) g ob) := ⟨by rw [List.take_of_length_le (by rw [HAN.out]; omega)]; exact HL.out.drews z, hkz⟩
        go_wp2_with fail
        refine q3.mono ?_
        clear q3
        rintro e wz ⟨rfl, hwz⟩
        subst wz
        clear hkz HL
        obtain ⟨q, rfl⟩ : ∃ q, pa = some ⟨q, 0, none⟩ := by
          rcases HP.out.1.2 with ⟨h0, _⟩ | ⟨q, cap, cur, hv, hg, hh, _⟩
          · simp only [Value.slice.injEq] at h0
            omega
          · simp only [Value.slice.injEq] at hv
            exact ⟨q, hv.1⟩
        have hpc : pn ≤ pc := owns_cap HP.out.1
        have hA : (if pc = n then (some ⟨q, 0, none⟩ : Option Addr) else some ⟨q, n * 10, none⟩) = some ⟨q, n * 10, none⟩ := if_neg (by omega)
        have i1 : n ≤ pn := by omega
        have i2 : ((n : Nat) : Int) ≤ (pn : Nat) := by omega
        have i3 : pn ≤ pc := hpc
        have i4 : (((pn - n : Nat)) : Int) = (pn : Int) - (n : Nat) := by omega
        generalize hX : A.take (prev + n) = X at *
        have HX : Hid (A.take (prev + n) = X) := hX
        clear hX
        go_wp2
        go_loopw [41] (fun i wr => ∃ k : Nat, i = .int .i64 (k : Nat) ∧ k ≤ pn - n ∧ Hid (∃ ob1, Lg wr g ob1 (flatL (X ++ (P.drop n).take k)) ∧ Kp w wr g ob ∧ (ob1 = ob ∨ ∃ k', ob1 = some k' ∧ w.heap.size ≤ k'))) (fun i _ => pn - n - (intOf i).toNat)
        case atStart => exact ⟨0, rfl, Nat.zero_le _, ob, by simpa using HL2.out.1, HL2.out.2, .inl rfl⟩
        case round =>
          obtain ⟨k, rfl, hk, HW⟩ := hrel
          obtain ⟨ob1, hl1, hk1, ho1⟩ := HW.out
          have HL1 : Hid (Lg wr g ob1 (flatL (X ++ (P.drop n).take k))) := hl1
          have HK1 : Hid (Kp w wr g ob) := hk1
          have HO1 : Hid (ob1 = ob ∨ ∃ k', ob1 = some k' ∧ w.heap.size ≤ k') := ho1
          clear HW hl1 hk1 ho1
          by_cases hlt : k < pn - n
          · have hpl : n + k < P.length := by have := HN.out; omega
            have hx : P[n + k]? = some P[n + k] := List.getElem?_eq_getElem hpl
            generalize P[n + k] = x at hx
            have hx2 : (flatL P)[n + k]? = some (flatE x) := by simp [flatL, hx]
            obtain ⟨b9, o9, e9, hcell⟩ := (At.of (owns_keep HK1.out HP.out.1 HP.out.2)).row hx2
            simp only [Option.some.injEq, Addr.mk.injEq] at e9
            obtain ⟨rfl, rfl, _⟩ := e9
            obtain ⟨ep2, s2⟩ := x
            have HXP : Hid (P[n + k]? = some (ep2, s2)) := hx
            have r0 : ∀ j, j < 10 → wr.cell? ⟨q, n * 10 + (k * 10 + j), none⟩ = (Ev.cells (flatE (ep2, s2)))[j]? := fun j hj => by rw [← hcell j hj]; congr 2; omega
            simp only [← Nat.add_assoc] at r0
            have d0 : wr.cell? ⟨q, n * 10 + k * 10, none⟩ = some (.int .u64 ep2) := r0 0 (by omega)
            have d1 : wr.cell? ⟨q, n * 10 + k * 10 + 1, none⟩ = some (.int .i64 2) := r0 1 (by omega)
            have d2 : wr.cell? ⟨q, n * 10 + k * 10 + 2, none⟩ = some (.int .i64 0) := r0 2 (by omega)
            have d3 : wr.cell? ⟨q, n * 10 + k * 10 + 3, none⟩ = some (.int .u64 0) := r0 3 (by omega)
            have d4 : wr.cell? ⟨q, n * 10 + k * 10 + 4, none⟩ = some (.bool false) := r0 4 (by omega)
            have d5 : wr.cell? ⟨q, n * 10 + k * 10 + 5, none⟩ = some (.slice none 0 0) := r0 5 (by omega)
            have d6 : wr.cell? ⟨q, n * 10 + k * 10 + 6, none⟩ = some (.slice none 0 0) := r0 6 (by omega)
            have d7 : wr.cell? ⟨q, n * 10 + k * 10 + 7, none⟩ = some (.int .i64 0) := r0 7 (by omega)
            have d8 : wr.cell? ⟨q, n * 10 + k * 10 + 8, none⟩ = some (.int .u64 s2) := r0 8 (by omega)
            have d9 : wr.cell? ⟨q, n * 10 + k * 10 + 9, none⟩ = some (.int .i64 0) := r0 9 (by omega)
            clear hcell r0 hx hx2 hpl
            have ha : Below wr.heap.size wr (wr.alloc (.cells #[.int .u64 ep2, .int .i64 2, .int .i64 0, .int .u64 0, .bool false, .slice none 0 0, .slice none 0 0, .int .i64 0, .int .u64 s2, .int .i64 0] 45)) := (Below.refl _ _).alloc (Nat.le_refl _) _
            have hxn := heap_alloc_new wr (.cells #[.int .u64 ep2, .int .i64 2, .int .i64 0, .int .u64 0, .bool false, .slice none 0 0, .slice none 0 0, .int .i64 0, .int .u64 s2, .int .i64 0] 45)
            have HL1A : Hid (Lg (wr.alloc (.cells #[.int .u64 ep2, .int .i64 2, .int .i64 0, .int .u64 0, .bool false, .slice none 0 0, .slice none 0 0, .int .i64 0, .int .u64 s2, .int .i64 0] 45)) g ob1 (flatL (X ++ (P.drop n).take k))) := HL1.out.later ha
            have HK1A : Hid (Kp w (wr.alloc (.cells #[.int .u64 ep2, .int .i64 2, .int .i64 0, .int .u64 0, .bool false, .slice none 0 0, .slice none 0 0, .int .i64 0, .int .u64 s2, .int .i64 0] 45)) g ob) := HK1.out.trans (Kp.of (g := g) (ob := ob) ha) (.inl rfl)
            clear ha HL1 HK1
            go_upto_region 7 with fail
            clear d0 d1 d2 d3 d4 d5 d6 d7 d8 d9
            generalize hw1 : wr.alloc (.cells #[.int .u64 ep2, .int .i64 2, .int .i64 0, .int .u64 0, .bool false, .slice none 0 0, .slice none 0 0, .int .i64 0, .int .u64 s2, .int .i64 0] 45) = w1 at *
            clear hw1
            obtain ⟨d0, d1, d2, d3, d4, d5, d6, d7, d8, d9⟩ := ten_cells hxn
            have hpre := pre_of HR.out HXP.out
            have hq := addF_any g ob1 (X ++ (P.drop n).take k) ep2 s2 _ w1 HL1A.out hpre.1 hpre.2.1 hpre.2.2.1 rfl hpre.2.2.2.1
            have HPRE : Hid (X ++ (P.drop n).take k ++ [(ep2, s2)] = X ++ (P.drop n).take (k + 1)) := hpre.2.2.2.2
            clear hxn hpre
            go_wp2_with fail
            refine hq.mono ?_
            clear hq d0 d1 d2 d3 d4 d5 d6 d7 d8 d9
            rintro e w3 ⟨rfl, ob3, hl3, hk3, ho3⟩
            have HW3 : Hid (∃ ob1, Lg w3 g ob1 (flatL (X ++ (P.drop n).take (k + 1))) ∧ Kp w w3 g ob ∧ (ob1 = ob ∨ ∃ k', ob1 = some k' ∧ w.heap.size ≤ k')) := by
              refine ⟨ob3, by rw [← HPRE.out]; exact hl3, HK1A.out.trans hk3 HO1.out, ?_⟩
              rcases ho3 with rfl | ⟨k', rfl, hk'⟩
              · exact HO1.out
              · exact .inr ⟨k', rfl, Nat.le_trans HK1A.out.size hk'⟩
            clear hl3 hk3 ho3
            go_wp2
            go_roundw
            case rel => exact ⟨k + 1, by go_num, by omega, HW3⟩
            case measure => simp [intOf]; omega
          · have hk2 : k = pn - n := by omega
            have HE : Hid (X ++ (P.drop n).take k = newLog A P prev ep) := by
              rw [Hid, newLog, if_pos ⟨HF.out, by rw [HS.out, ← HN.out]; omega⟩, HS.out, HX.out, List.take_of_length_le (by rw [List.length_drop, ← HN.out]; omega)]
            clear hk2
            go_wp2
            first | go_end0 | (refine bodyPost_ret (results_none rfl _ _ _) rfl ?_) | trace_state
            exact ⟨rfl, ob1, by rw [← HE.out]; exact HL1.out, HK1.out, HO1.out⟩
    · have hnn : n = pn := by omega
      subst hnn
      have HE : Hid (newLog A P prev ep = A) := by rw [Hid, newLog, if_neg (fun hc => by have := hc.2; rw [HS.out, ← HN.out] at this; omega)]
      have hd1 : decide (((n : Nat) : Int) < (n : Nat)) = false := by simp
      have hpc : n ≤ pc := owns_cap HP.out.1
      clear hr
      go_enter Try.func28, Try.ntmps28
      go_wp2_with fail
      refine q1.mono ?_
      clear q1
      rintro e wz ⟨rfl, hwz⟩
      subst wz
      go_wp2_with fail
      refine q2.mono ?_
      clear q2
      rintro e wz ⟨rfl, z, rfl⟩
      have HK : Hid (Kp w (w.drewN z) g ob) := Kp.of (below_drewN (Below.refl _ _) z)
      cases pa with
      | none =>
        have hpc0 : pc = 0 ∧ n = 0 := by
          rcases HP.out.1.2 with ⟨h0, _⟩ | ⟨q, cap, cur, hv, _⟩
          · simp only [Value.slice.injEq] at h0
            omega
          · simp at hv
        obtain ⟨rfl, rfl⟩ := hpc0
        go_wp2
        refine wp_loop_rounds 1 ?_
        rw [rounds_succ]
        go_wp2
        first | go_end0 | (refine bodyPost_ret (results_none rfl _ _ _) rfl ?_) | trace_state
        exact ⟨rfl, ob, by rw [HE.out]; exact HL.out.drews z, HK.out, .inl rfl⟩
      | some ad =>
        obtain ⟨q, rfl⟩ : ∃ q, ad = ⟨q, 0, none⟩ := by
          rcases HP.out.1.2 with ⟨h0, _⟩ | ⟨q, cap, cur, hv, _⟩
          · simp at h0
          · simp only [Value.slice.injEq, Option.some.injEq] at hv
            exact ⟨q, hv.1⟩
        obtain ⟨A9, hA9⟩ : ∃ A9, (if pc = n then (some ⟨q, 0, none⟩ : Option Addr) else some ⟨q, n * 10, none⟩) = A9 := ⟨_, rfl⟩
        go_wp2
        refine wp_loop_rounds 1 ?_
        rw [rounds_succ]
        go_wp2
        first | go_end0 | (refine bodyPost_ret (results_none rfl _ _ _) rfl ?_) | trace_state
        exact ⟨rfl, ob, by rw [HE.out]; exact HL.out.drews z, HK.out, .inl rfl⟩
  · have hf2 : fitsB (flatL A) prev ep = false := by simpa using hf
    rw [hf2] at q1
    have HE : Hid (newLog A P prev ep = A) := by rw [Hid, newLog, if_neg (fun hc => hf hc.1)]
    clear q2 hr hf hf2
    go_enter Try.func28, Try.ntmps28
    go_wp2_with fail
    refine q1.mono ?_
    clear q1
    rintro e wz ⟨rfl, hwz⟩
    subst wz
    go_wp2
    first | go_end0 | (refine bodyPost_ret (results_none rfl _ _ _) rfl ?_) | trace_state
    exact ⟨rfl, ob, by rw [HE.out]; exact HL.out, Kp.of (Below.refl _ _), .inl rfl⟩
end Go.Proofs.Ytlefaicdcomkjaa
