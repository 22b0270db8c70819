/- The document's Prefix, Top, Learn, From. -/
import Derived.Test.YtfibjbjheilpfaaLeE
namespace Go.Proofs.Ytfibjbjheilpfaa
open Go Go.RowKit
set_option linter.unusedVariables false
set_option linter.unusedSimpArgs false

theorem rval_some (base g : Nat) (L : List Ro) (s : Int) (u : ByteArray) (w : World) (h : Rt w base g L) (hlen : L.length ≤ 100000) (hc : fL L s = some u) :
    Calls Try.prog 15 #[.pointer (some ⟨g, 0, none⟩), .int .i64 s] w fun e w' => e = .returned (.tuple #[.string u, .bool true]) ∧ Below w.heap.size w w' := by
  have h1 := rval_any base g L s w h hlen
  rw [hc] at h1
  exact h1
theorem rval_none (base g : Nat) (L : List Ro) (s : Int) (w : World) (h : Rt w base g L) (hlen : L.length ≤ 100000) (hc : fL L s = none) :
    Calls Try.prog 15 #[.pointer (some ⟨g, 0, none⟩), .int .i64 s] w fun e w' => e = .returned (.tuple #[.string ⟨#[]⟩, .bool false]) ∧ Below w.heap.size w w' := by
  have h1 := rval_any base g L s w h hlen
  rw [hc] at h1
  exact h1
set_option maxRecDepth 100000 in
set_option maxHeartbeats 2000000 in
theorem rprefix_any (base g : Nat) (L : List Ro) (w : World) (h : Rt w base g L) (hlen : L.length ≤ 100000) :
    Calls Try.prog 11 #[.pointer (some ⟨g, 0, none⟩)] w fun e w' => e = .returned (.int .i64 (prefC (chL L) : Nat)) ∧ Below w.heap.size w w' := by
  have HL : Hid (Rt w base g L) := h
  clear h
  go_enter Try.func11, Try.ntmps11
  go_wp2
  go_loopw [3] (fun t wr => ∃ k : Nat, t = .int .i64 (k : Nat) ∧ k ≤ 400 ∧ Hid (∀ i, i < k → hasC (chL L) i = true) ∧ Hid (Below w.heap.size w wr)) (fun t _ => 400 - (intOf t).toNat)
  case atStart => exact ⟨0, rfl, by omega, fun i hi => absurd hi (Nat.not_lt_zero i), Below.refl _ _⟩
  case round =>
    obtain ⟨k, rfl, hk, HH, HW⟩ := hrel
    by_cases hlt : k < 400
    · have HR : Hid (Rt wr base g L) := HL.out.later HW.out
      cases hc : fL L (k : Nat) with
      | some u =>
        have h1 := rval_some base g L (k : Nat) u wr HR.out hlen hc
        have HC : Hid (hasC (chL L) k = true) := by show (fL L (k : Nat)).isSome = true; rw [hc]; rfl
        clear hc
        go_wp2_with (first | (go_at_call 15; refine h1.mono ?_; rintro e w' ⟨rfl, hb⟩) | fail)
        go_roundw
        case rel => exact ⟨k + 1, by go_num, by omega, fun i hi => by by_cases e : i = k; (· rw [e]; exact HC.out); exact HH.out i (by omega), HW.out.trans (hb.mono HW.out.size)⟩
        case measure => simp [intOf]; omega
      | none =>
        have h1 := rval_none base g L (k : Nat) wr HR.out hlen hc
        have HC : Hid (hasC (chL L) k = false) := by show (fL L (k : Nat)).isSome = false; rw [hc]; rfl
        clear hc
        go_wp2_with (first | (go_at_call 15; refine h1.mono ?_; rintro e w' ⟨rfl, hb⟩) | fail)
        go_ret
        exact ⟨by rw [prefC_is (chL L) k hk HH.out (fun _ => HC.out)]; rfl, HW.out.trans (hb.mono HW.out.size)⟩
    · have hk2 : k = 400 := by omega
      have HP : Hid (prefC (chL L) = 400) := prefC_is _ 400 (by omega) (by rw [← hk2]; exact HH.out) (fun h => absurd h (by omega))
      go_wp2
      go_ret
      exact ⟨by rw [HP.out]; rfl, HW.out⟩

set_option maxRecDepth 100000 in
set_option maxHeartbeats 2000000 in
theorem rtop_any (base g : Nat) (L : List Ro) (w : World) (h : Rt w base g L) (hlen : L.length ≤ 100000) (hok : OkL L) :
    Calls Try.prog 13 #[.pointer (some ⟨g, 0, none⟩)] w fun e w' => e = .returned (.int .i64 (topC (chL L) : Nat)) ∧ Below w.heap.size w w' := by
  obtain ⟨a, cc, -, h2, c0⟩ := h.cells
  have HO : Hid (w.ownsRow base 29 2 (.slice a L.length cc) L.length (L.flatMap rcells)) := h2
  have HT : Hid (topL L = (topC (chL L) : Nat)) := topL_topC L hok
  have HK : Hid (OkL L) := hok
  clear h h2 hok
  go_enter Try.func13, Try.ntmps13
  go_wp2
  go_loopw [3, 11] (fun n t wr => ∃ k : Nat, t = .int .i64 (k : Nat) ∧ k ≤ L.length ∧ n = .int .i64 (topL (L.take k)) ∧ Hid (Below w.heap.size w wr)) (fun _ t _ => L.length - (intOf t).toNat)
  case atStart => exact ⟨0, rfl, by omega, rfl, Below.refl _ _⟩
  case round =>
    obtain ⟨k, rfl, hk, rfl, HW⟩ := hrel
    by_cases hlt : k < L.length
    · obtain ⟨a', c', e, -, -, h5⟩ := rows_at (HO.out)
      simp only [Value.slice.injEq, true_and] at e
      obtain ⟨rfl, rfl⟩ := e
      obtain ⟨b, off, rfl, hc⟩ := h5 (by omega)
      have hr : L[k]? = some L[k] := List.getElem?_eq_getElem hlt
      generalize L[k] = r at hr
      obtain ⟨d0, d1⟩ := hc k r hr
      have d0 := (HW.out.cell (World.block_lt_of_cell? _ _ d0)).trans d0
      have d1 := (HW.out.cell (World.block_lt_of_cell? _ _ d1)).trans d1
      have hx := HK.out r (List.mem_of_getElem? hr)
      have HS : Hid (topL (L.take (k + 1)) = if topL (L.take k) ≤ r.1 then r.1 + 1 else topL (L.take k)) := by
        rw [Hid, ← topL_snoc]
        have hk2 := (List.getElem?_eq_some_iff.1 hr).1
        rw [List.take_succ_eq_append_getElem hk2]
        rw [List.getElem?_eq_getElem hk2] at hr
        simp only [Option.some.injEq] at hr
        rw [hr]
      clear hc h5 hr
      obtain ⟨x, u⟩ := r
      simp only at d0 d1 hx HS
      have HX : Hid (Below w.heap.size w (wr.alloc (.cells (rarr (x, u)) 29))) := HW.out.alloc HW.out.size _
      generalize topL (L.take k) = n at *
      generalize hn2 : topL (L.take (k + 1)) = n2 at *
      have HN2 : Hid (topL (L.take (k + 1)) = n2) := hn2
      clear hn2
      by_cases he : n ≤ x
      · have HN : Hid (n2 = x + 1) := by rw [Hid, HS.out, if_pos he]
        clear HS
        go_wp2
        go_roundw
        case rel => exact ⟨k + 1, by go_num, by omega, by rw [HN2.out, HN.out], HX.out⟩
        case measure => simp [intOf]; omega
      · have HN : Hid (n2 = n) := by rw [Hid, HS.out, if_neg he]
        clear HS
        go_wp2
        go_roundw
        case rel => exact ⟨k + 1, by go_num, by omega, by rw [HN2.out, HN.out], HX.out⟩
        case measure => simp [intOf]; omega
    · have hk2 : k = L.length := by omega
      subst hk2
      rw [List.take_length]
      go_wp2
      go_ret
      exact ⟨by rw [← HT.out]; rfl, HW.out⟩

set_option maxRecDepth 100000 in
set_option maxHeartbeats 2000000 in
theorem rfrom_any (base g : Nat) (L : List Ro) (s m : Int) (w : World) (h : Rt w base g L) (hlen : L.length ≤ 100000) (hok : OkL L) :
    Calls Try.prog 18 #[.pointer (some ⟨g, 0, none⟩), .int .i64 s, .int .i64 m] w fun e w' => ∃ v, e = .returned v ∧ OwnV w' w.heap.size 9 v (encs (fromC (chL L) s m)) ∧ Below w.heap.size w w' := by
  have HL : Hid (Rt w base g L) := h
  have HF : Hid (fromC (chL L) s m = fromP (chL L) (prefC (chL L)) s m) := rfl
  have hp := prefC_le (chL L)
  have HP : Hid (∀ i, i < prefC (chL L) → hasC (chL L) i = true) := fun i => prefC_has _ i
  have h1 := fun wr (h : Below w.heap.size w wr) => rprefix_any base g L wr (HL.out.later h) hlen
  clear h
  generalize prefC (chL L) = p at *
  go_enter Try.func18, Try.ntmps18
  go_wp2
  go_loopw [7, 8] (fun v t wr => ∃ k : Nat, t = .int .i64 (k : Nat) ∧ k ≤ p ∧ Hid (OwnV wr w.heap.size 9 v (encs (fromP (chL L) k s m))) ∧ Hid (Below w.heap.size w wr)) (fun _ t _ => p - (intOf t).toNat)
  case atStart => exact ⟨0, rfl, by omega, by rw [Hid, fromP_zero]; exact OwnV.nil _ _ _, Below.refl _ _⟩
  case round =>
    obtain ⟨k, rfl, hk, HO, HW⟩ := hrel
    have h2 := h1 wr HW.out
    obtain ⟨x, n, c, rfl⟩ := owns_slice HO.out
    have hn : n = (fromP (chL L) k s m).length := by
      obtain ⟨a9, c9, e9, -⟩ := HO.out.shape
      simp only [Value.slice.injEq, encs, List.length_map] at e9
      exact e9.2.1
    rw [fromP_len] at hn
    have hcl := cntC_le k s m
    have HCL : Hid (cntC k s m = n) := hn.symm
    have hn4 : n ≤ 400 := by omega
    clear hn hcl
    by_cases hlt : k < p
    · obtain ⟨u, hu⟩ : ∃ u, fL L (k : Nat) = some u := Option.isSome_iff_exists.1 (HP.out k hlt)
      have HU : Hid (valC (chL L) k = u) := by show (fL L (k : Nat)).getD _ = u; rw [hu]; rfl
      have h3 : ∀ w1, Below w.heap.size w w1 → _ := fun w1 h => rval_some base g L (k : Nat) u w1 (HL.out.later h) hlen hu
      clear hu
      by_cases hA : 0 ≤ s ∧ s ≤ (k : Nat) ∧ (n : Int) < m
      · obtain ⟨hA, hB, hC⟩ := hA
        have HV : Hid (encs (fromP (chL L) (k + 1) s m) = encs (fromP (chL L) k s m) ++ [.string u]) := by
          rw [Hid, fromP_next _ _ _ _ hA hB (by rw [HCL.out]; exact hC), HU.out]
          simp [encs]
        have hd1 : decide (s ≤ (k : Nat)) = true := by simpa using hB
        have hd2 : decide ((n : Int) < m) = true := by simpa using hC
        have HLEN : Hid ((encs (fromP (chL L) k s m)).length = n) := by rw [Hid, encs, List.length_map, fromP_len, HCL.out]
        generalize encs (fromP (chL L) k s m) = xs at *
        clear hB hC
        go_wp2_with fail
        refine h2.mono ?_
        clear h2
        rintro e w1 ⟨rfl, hb1⟩
        have HB1 : Hid (Below w.heap.size w w1) := HW.out.trans (hb1.mono HW.out.size)
        have HO1 : Hid (OwnV w1 w.heap.size 9 (.slice x n c) xs) := HO.out.later hb1
        have h4 := h3 w1 HB1.out
        clear h3 hb1 HO HW
        go_wp2_with fail
        refine h4.mono ?_
        clear h4
        rintro e w2 ⟨rfl, hb2⟩
        have HB2 : Hid (Below w.heap.size w w2) := HB1.out.trans (hb2.mono HB1.out.size)
        have HO2 : Hid (OwnV w2 w.heap.size 9 (.slice x n c) xs) := HO1.out.later hb2
        clear hb2 HO1 HB1
        have hsz := HB2.out.size
        go_wp2_with (at_builtin; refine wp_append_one 36 9 _ 16 Try.underlying36 Try.info_9 rfl rfl _ _ rfl w.heap.size _ _ rfl (HO2.out.alloc _) _ _ (.string u) rfl (by simp) rfl (by have := HLEN.out; omega) (by have := HLEN.out; omega) (by simp; omega) ?_; intro v2 w3 ho2 hb3)
        go_roundw
        case rel => exact ⟨k + 1, by go_num, by omega, by unfold Hid; rw [HV.out]; exact ho2, (HB2.out.alloc hsz _).trans hb3⟩
        case measure => simp [intOf]; omega
      · have HV : Hid (fromP (chL L) (k + 1) s m = fromP (chL L) k s m) := fromP_stay _ _ _ _ (by rw [HCL.out]; omega)
        have hd : (decide (0 ≤ s) && (decide (s ≤ (k : Nat)) && decide ((n : Int) < m))) = false := by
          rw [Bool.eq_false_iff]
          intro h
          simp only [Bool.and_eq_true, decide_eq_true_eq] at h
          exact hA ⟨h.1, h.2.1, h.2.2⟩
        clear hA
        have HR : Hid (∀ w2, Below w.heap.size w w2 → OwnV w2 w.heap.size 9 (.slice x n c) (encs (fromP (chL L) k s m)) → OwnV w2 w.heap.size 9 (.slice x n c) (encs (fromP (chL L) (k + 1) s m))) := fun w2 _ h => by rw [HV.out]; exact h
        clear HV
        go_wp2_with fail
        refine h2.mono ?_
        clear h2
        rintro e w1 ⟨rfl, hb1⟩
        have HB1 : Hid (Below w.heap.size w w1) := HW.out.trans (hb1.mono HW.out.size)
        have HO1 : Hid (OwnV w1 w.heap.size 9 (.slice x n c) (encs (fromP (chL L) k s m))) := HO.out.later hb1
        have h4 := h3 w1 HB1.out
        clear h3 hb1 HO HW
        go_wp2_with fail
        refine h4.mono ?_
        clear h4
        rintro e w2 ⟨rfl, hb2⟩
        have HB2 : Hid (Below w.heap.size w w2) := HB1.out.trans (hb2.mono HB1.out.size)
        have HO2 : Hid (OwnV w2 w.heap.size 9 (.slice x n c) (encs (fromP (chL L) k s m))) := HO1.out.later hb2
        clear hb2 HO1 HB1
        by_cases hA : 0 ≤ s
        · by_cases hB : s ≤ (k : Nat)
          · have hd1 : decide (0 ≤ s) = true := by simpa using hA
            have hd2 : decide (s ≤ (k : Nat)) = true := by simpa using hB
            have hd3 : decide ((n : Int) < m) = false := by simpa [hd1, hd2] using hd
            clear hd hB
            go_wp2
            go_roundw
            case rel => exact ⟨k + 1, by go_num, by omega, HR.out _ HB2.out HO2.out, HB2.out⟩
            case measure => simp [intOf]; omega
          · have hd2 : decide (s ≤ (k : Nat)) = false := by simpa using hB
            clear hd hB
            go_wp2
            go_roundw
            case rel => exact ⟨k + 1, by go_num, by omega, HR.out _ HB2.out HO2.out, HB2.out⟩
            case measure => simp [intOf]; omega
        · have hd1 : decide (0 ≤ s) = false := by simpa using hA
          clear hd
          go_wp2
          go_roundw
          case rel => exact ⟨k + 1, by go_num, by omega, HR.out _ HB2.out HO2.out, HB2.out⟩
          case measure => simp [intOf]; omega
    · have hk2 : k = p := by omega
      subst hk2
      go_wp2_with fail
      refine h2.mono ?_
      clear h2
      rintro e w1 ⟨rfl, hb1⟩
      have HB1 : Hid (Below w.heap.size w w1) := HW.out.trans (hb1.mono HW.out.size)
      have HO1 : Hid (OwnV w1 w.heap.size 9 (.slice x n c) (encs (fromP (chL L) k s m))) := HO.out.later hb1
      clear hb1 HO HW
      go_wp2
      go_ret
      exact ⟨_, rfl, by rw [HF.out]; exact HO1.out, HB1.out⟩
end Go.Proofs.Ytfibjbjheilpfaa
