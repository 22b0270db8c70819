/- The law's own space: Undo, Clean: contracts. -/
import Derived.Test.YtmahigfamgbhfaaSpM
import Derived.Test.YtmahigfamgbhfaaObL
import Derived.Deep.RegionHeld3
import Derived.Deep.Cut
namespace Go.Proofs.Ytmahigfamgbhfaa
open Go.RowKit Go.Maps
set_option linter.unusedVariables false
set_option linter.unusedSimpArgs false

theorem ROwn.cells {w0 w : World} {base : Nat} {a : Option Addr} {n c : Nat} {L : List LRow} (h : ROwn w0 w base (.slice a n c) L) : L.length = n ∧ ∀ k, k < n → ∃ g, a = some ⟨g, 0, none⟩ ∧ base ≤ g ∧ w.cell? ⟨g, k * 2, none⟩ = some (.string (rkey L k)) ∧ ∃ u, w.cell? ⟨g, k * 2 + 1, none⟩ = some u ∧ Rf w0 u (rvers L k) := by
  obtain ⟨ps, ⟨hl, h⟩, h2, h3⟩ := h
  rcases h with ⟨e, hn⟩ | ⟨g, cap, cur, e, hg, hh, hn, hm, hs, ht⟩
  · injection e with e1 e2 e3
    exact ⟨by omega, fun k hk => by omega⟩
  · injection e with e1 e2 e3
    refine ⟨by omega, fun i hi => ⟨g, e1, hg, ?_⟩⟩
    obtain ⟨p, hp⟩ : ∃ p, ps[i]? = some p := ⟨ps[i]'(by omega), List.getElem?_eq_getElem (by omega)⟩
    obtain ⟨c0, c1⟩ := cellsR_at ps i p hp
    obtain ⟨k1, k2⟩ := h3 i p hp
    have get : ∀ (j : Nat) (u : Value), (cellsR ps)[j]? = some u → cur[j]? = some u := by
      intro j u hj
      have hlt := (List.getElem?_eq_some_iff.1 hj).1
      rw [cellsR_length] at hlt
      rw [← ht, List.getElem?_take_of_lt hlt, Array.getElem?_toList] at hj
      exact hj
    exact ⟨by rw [← k1]; exact cell_of_heap hh (get _ _ c0), p.2, cell_of_heap hh (get _ _ c1), k2⟩
theorem ROwn.isSlice {w0 w : World} {base : Nat} {v : Value} {L : List LRow} (h : ROwn w0 w base v L) : ∃ a c, v = .slice a L.length c := by
  obtain ⟨ps, ⟨hl, h⟩, h2, h3⟩ := h
  rcases h with ⟨rfl, hn⟩ | ⟨g, cap, cur, rfl, _⟩
  · exact ⟨none, 0, by rw [← h2, hn]⟩
  · exact ⟨_, _, by rw [← h2]⟩
theorem Rs.lt {w : World} {gr : Nat} {L : List LRow} (h : Rs w gr L) : gr < w.heap.size := by
  obtain ⟨a, k, c, h1, _⟩ := h.box
  exact (Array.getElem?_eq_some_iff.1 h1).1

set_option maxRecDepth 100000 in
set_option maxHeartbeats 8000000 in
theorem rundo_any (gr : Nat) (L : List LRow) (m : Int) (w : World) (h : Rs w gr L) (hs : Srt L) (hv : ∀ i, (rvers L i).length ≤ 1000000 ∧ Rises (rvers L i)) (hL : L.length < 1000000) :
    Calls Try.prog 49 #[.pointer (some ⟨gr, 0, none⟩), .int .i64 m] w fun e w' => e = .returned (.tuple #[]) ∧ Rs w' gr (mapR (fun l => undoL l m) L) ∧ w.grownBy w' (some gr) := by
  have HRS : Hid (Rs w gr L) := h
  have HS : Hid (Srt L) := hs
  have HV : Hid (∀ i, (rvers L i).length ≤ 1000000 ∧ Rises (rvers L i)) := hv
  have HGL : Hid (gr < w.heap.size) := h.lt
  obtain ⟨a, n, cap, hbox, hr, h0⟩ := h.box
  have c0 : w.cell? ⟨gr, 0, none⟩ = some (.slice a n cap) := cell_of_heap hbox rfl
  have HR : Hid (RRow w a n L) := hr
  have HBX : Hid (w.heap[gr]? = some (.cells #[.slice a n cap] 59)) := hbox
  have H0 : Hid (a = none → cap = 0) := h0
  have hn : L.length = n := hr.1
  have HB1 : Hid (Below w.heap.size w (w.alloc (.cells #[] 66))) := (Below.refl _ _).alloc (Nat.le_refl _) _
  have HOW : Hid ((w.alloc (.cells #[] 66)).ownsRow w.heap.size 66 2 (.slice (some ⟨w.heap.size, 0, none⟩) 0 0) 0 []) := ⟨rfl, .inr ⟨_, _, _, rfl, Nat.le_refl _, heap_alloc_new w _, by simp, by simp, by simp, by simp⟩⟩
  have c1 := cell_later HB1.out c0
  clear h hs hv hr hbox h0 c0
  go_enter Try.func49, Try.ntmps49
  go_wp2_with (at_builtin; refine wp_append_copy rfl _ _ rfl w w.heap.size _ L rfl HOW.out _ _ _ rfl HR.out H0.out HB1.out HB1.out.size ?_; intro v2 w2 ho2 hb2 hg2; obtain ⟨va, vc, rfl⟩ := ho2.isSlice; have HO2 : Hid (ROwn w w2 w.heap.size (.slice va n vc) L) := (by rw [← hn]; exact ho2); have HG2 : Hid (w.grownBy w2 (some gr)) := (grown_of_below (HB1.out.trans hb2)).but _; have HR2 : Hid (Rs w2 gr L) := (HRS.out.later (HB1.out.trans hb2)); clear ho2 hb2 hg2)
  go_loopw [13] (fun s13 wr => ∃ k : Nat, s13 = .int .i64 (k : Nat) ∧ k ≤ n ∧ Hid (Rs wr gr (mapR (fun l => undoL l m) (L.take k) ++ L.drop k)) ∧ Hid (w.grownBy wr (some gr)) ∧ Hid (ROwn w wr w.heap.size (.slice va n vc) L)) (fun s13 _ => n - (intOf s13).toNat)
  case atStart => exact ⟨0, rfl, by omega, by simpa [mapR] using HR2, HG2, HO2⟩
  case round =>
    obtain ⟨k, rfl, hk, HK, HG, HO⟩ := hrel
    by_cases hlt : k < n
    · obtain ⟨g, rfl, hgb, d0, u, d1, hu⟩ := HO.out.cells.2 k hlt
      have hu2 := hu.grown HBX.out (by simp) HG.out
      obtain ⟨ua, uk, uc, rfl, hvr, hv0⟩ := hu2
      have HVR : Hid (VRow wr ua uk (rvers L k)) := hvr
      have HLK : Hid ((rvers L k).length ≤ 1000000 ∧ Rises (rvers L k)) := HV.out k
      have HST : Hid (setL (mapR (fun l => undoL l m) (L.take k) ++ L.drop k) (rkey L k) ((fun l => undoL l m) (rvers L k)) = mapR (fun l => undoL l m) (L.take (k + 1)) ++ L.drop (k + 1)) := set_at HS.out k (by omega)
      have HLL : Hid ((mapR (fun l => undoL l m) (L.take k) ++ L.drop k).length < 1000000) := by
        have := mapR_length (fun l => undoL l m) (L.take k)
        have h2 : (L.take k).length = k := by simp; omega
        rw [Hid, List.length_append, List.length_drop]
        omega
      clear hu hvr hv0
      generalize rkey L k = rk at *
      generalize rvers L k = rv at *
      have hukn : uk ≤ 1000000 := by rw [← HVR.out.1]; exact HLK.out.1
      have HB4 : Hid (Below wr.heap.size wr (wr.alloc (.cells #[.string rk, .slice ua uk uc] 66))) := (Below.refl _ _).alloc (Nat.le_refl _) _
      have hrb : (wr.alloc (.cells #[.string rk, .slice ua uk uc] 66)).heap[wr.heap.size]? = some (.cells #[.string rk, .slice ua uk uc] 66) := heap_alloc_new wr _
      have HVR4 : Hid (VRow (wr.alloc (.cells #[.string rk, .slice ua uk uc] 66)) ua uk rv) := HVR.out.later HB4.out
      have HK4 : Hid (Rs (wr.alloc (.cells #[.string rk, .slice ua uk uc] 66)) gr (mapR (fun l => undoL l m) (L.take k) ++ L.drop k)) := HK.out.later HB4.out
      have HG4 : Hid (wr.grownBy (wr.alloc (.cells #[.string rk, .slice ua uk uc] 66)) (some gr)) := (grown_of_below HB4.out).but _
      clear HB4
      have hpr : wr.heap.size ≠ gr := by have := HK.out.lt; omega
      go_upto_region 3 with fail
      generalize wr.alloc (.cells #[.string rk, .slice ua uk uc] 66) = w4 at *
      generalize wr.heap.size = pr at *
      have x0 := cell_of_heap (i := 0) hrb rfl
      have x1 := cell_of_heap (i := 1) hrb rfl
      refine wp_region_noPanic ?_
      refine wp_region_held_drew (S := (fun w' => w'.cell? ⟨pr, 0, none⟩ = some (.string rk) ∧ w'.cell? ⟨pr, 1, none⟩ = some (.slice ua uk uc))) (by kernel_rfl) ?_ (fun hHeld => ?_)
      · exact ⟨x0, x1⟩
      refine held_take (i := 0) (d := 17) (v := ?_) rfl rfl (by kernel_rfl) (by kernel_rfl) (by kernel_rfl) (fun _ _ _ h => h) (Or.inl ⟨by rfl, ?_⟩) hHeld ?_
      rotate_left
      · (intro w hSw; (try dsimp only at hSw); go_simp; all_goals (with_reducible rfl))
      try simp only [Act.put, List.setIfInBounds_toArray, List.set_cons_zero, List.set_cons_succ]
      refine held_take (i := 1) (d := 18) (v := ?_) rfl rfl (by kernel_rfl) (by kernel_rfl) (by kernel_rfl) (fun _ _ _ h => h) (Or.inl ⟨by rfl, ?_⟩) hHeld ?_
      rotate_left
      · (intro w hSw; (try dsimp only at hSw); go_simp; all_goals (with_reducible rfl))
      try simp only [Act.put, List.setIfInBounds_toArray, List.set_cons_zero, List.set_cons_succ]
      refine held_take (i := 2) (d := 19) (v := ?_) rfl rfl (by kernel_rfl) (by kernel_rfl) (by kernel_rfl) (fun _ _ _ h => h) (Or.inl ⟨by rfl, ?_⟩) hHeld ?_
      rotate_left
      · (intro w hSw; (try dsimp only at hSw); go_simp; all_goals (with_reducible rfl))
      try simp only [Act.put, List.setIfInBounds_toArray, List.set_cons_zero, List.set_cons_succ]
      refine held_take (i := 3) (d := 20) (v := ?_) rfl rfl (by kernel_rfl) (by kernel_rfl) (by kernel_rfl) (fun _ _ _ h => h) (Or.inl ⟨by rfl, ?_⟩) hHeld ?_
      rotate_left
      · (intro w hSw; (try dsimp only at hSw); go_simp; all_goals (with_reducible rfl))
      try simp only [Act.put, List.setIfInBounds_toArray, List.set_cons_zero, List.set_cons_succ]
      refine held_take (i := 4) (d := 21) (v := ?_) rfl rfl (by kernel_rfl) (by kernel_rfl) (by kernel_rfl) (fun _ _ _ h => h) (Or.inl ⟨by rfl, ?_⟩) hHeld ?_
      rotate_left
      · (intro w hSw; (try dsimp only at hSw); go_simp; all_goals (with_reducible rfl))
      try simp only [Act.put, List.setIfInBounds_toArray, List.set_cons_zero, List.set_cons_succ]
      refine held_take (i := 5) (d := 22) (v := ?_) rfl rfl (by kernel_rfl) (by kernel_rfl) (by kernel_rfl) (fun _ _ _ h => h) (Or.inl ⟨by rfl, ?_⟩) hHeld ?_
      rotate_left
      · (intro w hSw; (try dsimp only at hSw); go_simp; all_goals (with_reducible rfl))
      try simp only [Act.put, List.setIfInBounds_toArray, List.set_cons_zero, List.set_cons_succ]
      refine wpAnyH_ready (rs := [6]) (by kernel_rfl) (by simp) ?_
      refine AllReadyH.cons rfl (fun K hK => ?_) AllReadyH.nil
      go_simp
      refine (ref_undo_any ua uk uc m rv w4.drew (HVR4.out.later (Below.refl _ _).drew) hukn).mono ?_
      rintro e w5 ⟨v5, rfl, ho5', hb5⟩
      have ho5 := ho5'
      rw [undo_filter HLK.out.2] at ho5
      clear ho5'
      obtain ⟨xa, xk, xc, rfl, hx5, hx0⟩ := ho5.rf
      have HX5 : Hid (Rf w5 (.slice xa xk xc) ((fun l => undoL l m) rv)) := ⟨xa, xk, xc, rfl, hx5, hx0⟩
      have HB5 : Hid (Below w4.heap.size w4 w5) := ((Below.refl _ _).drew).trans hb5
      clear ho5 hb5 hx5 hx0
      go_wp2_with fail
      refine hK.out _ _ ?_ (fun hHeld => ?_)
      · exact ⟨cell_later HB5.out x0, cell_later HB5.out x1⟩
      clear hK K
      try simp only [Act.put, List.setIfInBounds_toArray, List.set_cons_zero, List.set_cons_succ]
      refine wpAnyH_ready (rs := [7]) (by kernel_rfl) (by simp) ?_
      refine AllReadyH.cons rfl (fun K hK => ?_) AllReadyH.nil
      go_simp
      refine (set_any gr _ rk xa xk xc _ w5 (HK4.out.later HB5.out) HX5.out HLL.out).mono ?_
      rintro e w6 ⟨rfl, hrs6, hg6⟩
      have HK6 := hrs6
      rw [HST.out] at HK6
      have HK7 : Hid (Rs w6 gr _) := HK6
      have HG6 : Hid (w5.grownBy w6 (some gr)) := hg6
      clear hrs6 hg6 HK6
      go_wp2_with fail
      refine hK.out _ _ ?_ (fun hHeld => ?_)
      · exact ⟨HG6.out.cell (cell_later HB5.out x0) (fun e => hpr (by injection e)), HG6.out.cell (cell_later HB5.out x1) (fun e => hpr (by injection e))⟩
      clear hK K
      try simp only [Act.put, List.setIfInBounds_toArray, List.set_cons_zero, List.set_cons_succ]
      refine wpAnyH_done (by kernel_rfl) ?_ _
      refine NoPanic.normal ?_
      go_wp2
      go_roundw
      case rel =>
        have hgw : wr.grownBy w6 (some gr) := HG4.out.trans (((grown_of_below HB5.out).but _).trans HG6.out)
        exact ⟨k + 1, by go_num, by omega, HK7, HG.out.trans hgw, HO.out.grown hgw HGL.out⟩
      case measure => simp [intOf]; omega
    · have HE : Hid (Rs wr gr (mapR (fun l => undoL l m) L)) := by
        have h1 := HK.out
        rw [List.take_of_length_le (by omega), List.drop_of_length_le (by omega), List.append_nil] at h1
        exact h1
      go_wp2
      go_end0
      exact ⟨rfl, HE.out, HG.out⟩
set_option maxRecDepth 100000 in
set_option maxHeartbeats 8000000 in
theorem rclean_any (gr : Nat) (L : List LRow) (m : Int) (w : World) (h : Rs w gr L) (hs : Srt L) (hv : ∀ i, (rvers L i).length ≤ 1000000 ∧ Rises (rvers L i)) (hL : L.length < 1000000) :
    Calls Try.prog 50 #[.pointer (some ⟨gr, 0, none⟩), .int .i64 m] w fun e w' => e = .returned (.tuple #[]) ∧ Rs w' gr (mapR (fun l => cleanL l m) L) ∧ w.grownBy w' (some gr) := by
  have HRS : Hid (Rs w gr L) := h
  have HS : Hid (Srt L) := hs
  have HV : Hid (∀ i, (rvers L i).length ≤ 1000000 ∧ Rises (rvers L i)) := hv
  have HGL : Hid (gr < w.heap.size) := h.lt
  obtain ⟨a, n, cap, hbox, hr, h0⟩ := h.box
  have c0 : w.cell? ⟨gr, 0, none⟩ = some (.slice a n cap) := cell_of_heap hbox rfl
  have HR : Hid (RRow w a n L) := hr
  have HBX : Hid (w.heap[gr]? = some (.cells #[.slice a n cap] 59)) := hbox
  have H0 : Hid (a = none → cap = 0) := h0
  have hn : L.length = n := hr.1
  have HB1 : Hid (Below w.heap.size w (w.alloc (.cells #[] 66))) := (Below.refl _ _).alloc (Nat.le_refl _) _
  have HOW : Hid ((w.alloc (.cells #[] 66)).ownsRow w.heap.size 66 2 (.slice (some ⟨w.heap.size, 0, none⟩) 0 0) 0 []) := ⟨rfl, .inr ⟨_, _, _, rfl, Nat.le_refl _, heap_alloc_new w _, by simp, by simp, by simp, by simp⟩⟩
  have c1 := cell_later HB1.out c0
  clear h hs hv hr hbox h0 c0
  go_enter Try.func50, Try.ntmps50
  go_wp2_with (at_builtin; refine wp_append_copy rfl _ _ rfl w w.heap.size _ L rfl HOW.out _ _ _ rfl HR.out H0.out HB1.out HB1.out.size ?_; intro v2 w2 ho2 hb2 hg2; obtain ⟨va, vc, rfl⟩ := ho2.isSlice; have HO2 : Hid (ROwn w w2 w.heap.size (.slice va n vc) L) := (by rw [← hn]; exact ho2); have HG2 : Hid (w.grownBy w2 (some gr)) := (grown_of_below (HB1.out.trans hb2)).but _; have HR2 : Hid (Rs w2 gr L) := (HRS.out.later (HB1.out.trans hb2)); clear ho2 hb2 hg2)
  go_loopw [13] (fun s13 wr => ∃ k : Nat, s13 = .int .i64 (k : Nat) ∧ k ≤ n ∧ Hid (Rs wr gr (mapR (fun l => cleanL l m) (L.take k) ++ L.drop k)) ∧ Hid (w.grownBy wr (some gr)) ∧ Hid (ROwn w wr w.heap.size (.slice va n vc) L)) (fun s13 _ => n - (intOf s13).toNat)
  case atStart => exact ⟨0, rfl, by omega, by simpa [mapR] using HR2, HG2, HO2⟩
  case round =>
    obtain ⟨k, rfl, hk, HK, HG, HO⟩ := hrel
    by_cases hlt : k < n
    · obtain ⟨g, rfl, hgb, d0, u, d1, hu⟩ := HO.out.cells.2 k hlt
      have hu2 := hu.grown HBX.out (by simp) HG.out
      obtain ⟨ua, uk, uc, rfl, hvr, hv0⟩ := hu2
      have HVR : Hid (VRow wr ua uk (rvers L k)) := hvr
      have HLK : Hid ((rvers L k).length ≤ 1000000 ∧ Rises (rvers L k)) := HV.out k
      have HST : Hid (setL (mapR (fun l => cleanL l m) (L.take k) ++ L.drop k) (rkey L k) ((fun l => cleanL l m) (rvers L k)) = mapR (fun l => cleanL l m) (L.take (k + 1)) ++ L.drop (k + 1)) := set_at HS.out k (by omega)
      have HLL : Hid ((mapR (fun l => cleanL l m) (L.take k) ++ L.drop k).length < 1000000) := by
        have := mapR_length (fun l => cleanL l m) (L.take k)
        have h2 : (L.take k).length = k := by simp; omega
        rw [Hid, List.length_append, List.length_drop]
        omega
      clear hu hvr hv0
      generalize rkey L k = rk at *
      generalize rvers L k = rv at *
      have hukn : uk ≤ 1000000 := by rw [← HVR.out.1]; exact HLK.out.1
      have HB4 : Hid (Below wr.heap.size wr (wr.alloc (.cells #[.string rk, .slice ua uk uc] 66))) := (Below.refl _ _).alloc (Nat.le_refl _) _
      have hrb : (wr.alloc (.cells #[.string rk, .slice ua uk uc] 66)).heap[wr.heap.size]? = some (.cells #[.string rk, .slice ua uk uc] 66) := heap_alloc_new wr _
      have HVR4 : Hid (VRow (wr.alloc (.cells #[.string rk, .slice ua uk uc] 66)) ua uk rv) := HVR.out.later HB4.out
      have HK4 : Hid (Rs (wr.alloc (.cells #[.string rk, .slice ua uk uc] 66)) gr (mapR (fun l => cleanL l m) (L.take k) ++ L.drop k)) := HK.out.later HB4.out
      have HG4 : Hid (wr.grownBy (wr.alloc (.cells #[.string rk, .slice ua uk uc] 66)) (some gr)) := (grown_of_below HB4.out).but _
      clear HB4
      have hpr : wr.heap.size ≠ gr := by have := HK.out.lt; omega
      go_upto_region 3 with fail
      generalize wr.alloc (.cells #[.string rk, .slice ua uk uc] 66) = w4 at *
      generalize wr.heap.size = pr at *
      have x0 := cell_of_heap (i := 0) hrb rfl
      have x1 := cell_of_heap (i := 1) hrb rfl
      refine wp_region_noPanic ?_
      refine wp_region_held_drew (S := (fun w' => w'.cell? ⟨pr, 0, none⟩ = some (.string rk) ∧ w'.cell? ⟨pr, 1, none⟩ = some (.slice ua uk uc))) (by kernel_rfl) ?_ (fun hHeld => ?_)
      · exact ⟨x0, x1⟩
      refine held_take (i := 0) (d := 17) (v := ?_) rfl rfl (by kernel_rfl) (by kernel_rfl) (by kernel_rfl) (fun _ _ _ h => h) (Or.inl ⟨by rfl, ?_⟩) hHeld ?_
      rotate_left
      · (intro w hSw; (try dsimp only at hSw); go_simp; all_goals (with_reducible rfl))
      try simp only [Act.put, List.setIfInBounds_toArray, List.set_cons_zero, List.set_cons_succ]
      refine held_take (i := 1) (d := 18) (v := ?_) rfl rfl (by kernel_rfl) (by kernel_rfl) (by kernel_rfl) (fun _ _ _ h => h) (Or.inl ⟨by rfl, ?_⟩) hHeld ?_
      rotate_left
      · (intro w hSw; (try dsimp only at hSw); go_simp; all_goals (with_reducible rfl))
      try simp only [Act.put, List.setIfInBounds_toArray, List.set_cons_zero, List.set_cons_succ]
      refine held_take (i := 2) (d := 19) (v := ?_) rfl rfl (by kernel_rfl) (by kernel_rfl) (by kernel_rfl) (fun _ _ _ h => h) (Or.inl ⟨by rfl, ?_⟩) hHeld ?_
      rotate_left
      · (intro w hSw; (try dsimp only at hSw); go_simp; all_goals (with_reducible rfl))
      try simp only [Act.put, List.setIfInBounds_toArray, List.set_cons_zero, List.set_cons_succ]
      refine held_take (i := 3) (d := 20) (v := ?_) rfl rfl (by kernel_rfl) (by kernel_rfl) (by kernel_rfl) (fun _ _ _ h => h) (Or.inl ⟨by rfl, ?_⟩) hHeld ?_
      rotate_left
      · (intro w hSw; (try dsimp only at hSw); go_simp; all_goals (with_reducible rfl))
      try simp only [Act.put, List.setIfInBounds_toArray, List.set_cons_zero, List.set_cons_succ]
      refine held_take (i := 4) (d := 21) (v := ?_) rfl rfl (by kernel_rfl) (by kernel_rfl) (by kernel_rfl) (fun _ _ _ h => h) (Or.inl ⟨by rfl, ?_⟩) hHeld ?_
      rotate_left
      · (intro w hSw; (try dsimp only at hSw); go_simp; all_goals (with_reducible rfl))
      try simp only [Act.put, List.setIfInBounds_toArray, List.set_cons_zero, List.set_cons_succ]
      refine held_take (i := 5) (d := 22) (v := ?_) rfl rfl (by kernel_rfl) (by kernel_rfl) (by kernel_rfl) (fun _ _ _ h => h) (Or.inl ⟨by rfl, ?_⟩) hHeld ?_
      rotate_left
      · (intro w hSw; (try dsimp only at hSw); go_simp; all_goals (with_reducible rfl))
      try simp only [Act.put, List.setIfInBounds_toArray, List.set_cons_zero, List.set_cons_succ]
      refine wpAnyH_ready (rs := [6]) (by kernel_rfl) (by simp) ?_
      refine AllReadyH.cons rfl (fun K hK => ?_) AllReadyH.nil
      go_simp
      refine (ref_clean_any ua uk uc m rv w4.drew (HVR4.out.later (Below.refl _ _).drew) HLK.out.2 hukn).mono ?_
      rintro e w5 ⟨v5, rfl, ho5, hb5⟩
      obtain ⟨xa, xk, xc, rfl, hx5, hx0⟩ := ho5.rf
      have HX5 : Hid (Rf w5 (.slice xa xk xc) ((fun l => cleanL l m) rv)) := ⟨xa, xk, xc, rfl, hx5, hx0⟩
      have HB5 : Hid (Below w4.heap.size w4 w5) := ((Below.refl _ _).drew).trans hb5
      clear ho5 hb5 hx5 hx0
      go_wp2_with fail
      refine hK.out _ _ ?_ (fun hHeld => ?_)
      · exact ⟨cell_later HB5.out x0, cell_later HB5.out x1⟩
      clear hK K
      try simp only [Act.put, List.setIfInBounds_toArray, List.set_cons_zero, List.set_cons_succ]
      refine wpAnyH_ready (rs := [7]) (by kernel_rfl) (by simp) ?_
      refine AllReadyH.cons rfl (fun K hK => ?_) AllReadyH.nil
      go_simp
      refine (set_any gr _ rk xa xk xc _ w5 (HK4.out.later HB5.out) HX5.out HLL.out).mono ?_
      rintro e w6 ⟨rfl, hrs6, hg6⟩
      have HK6 := hrs6
      rw [HST.out] at HK6
      have HK7 : Hid (Rs w6 gr _) := HK6
      have HG6 : Hid (w5.grownBy w6 (some gr)) := hg6
      clear hrs6 hg6 HK6
      go_wp2_with fail
      refine hK.out _ _ ?_ (fun hHeld => ?_)
      · exact ⟨HG6.out.cell (cell_later HB5.out x0) (fun e => hpr (by injection e)), HG6.out.cell (cell_later HB5.out x1) (fun e => hpr (by injection e))⟩
      clear hK K
      try simp only [Act.put, List.setIfInBounds_toArray, List.set_cons_zero, List.set_cons_succ]
      refine wpAnyH_done (by kernel_rfl) ?_ _
      refine NoPanic.normal ?_
      go_wp2
      go_roundw
      case rel =>
        have hgw : wr.grownBy w6 (some gr) := HG4.out.trans (((grown_of_below HB5.out).but _).trans HG6.out)
        exact ⟨k + 1, by go_num, by omega, HK7, HG.out.trans hgw, HO.out.grown hgw HGL.out⟩
      case measure => simp [intOf]; omega
    · have HE : Hid (Rs wr gr (mapR (fun l => cleanL l m) L)) := by
        have h1 := HK.out
        rw [List.take_of_length_le (by omega), List.drop_of_length_le (by omega), List.append_nil] at h1
        exact h1
      go_wp2
      go_end0
      exact ⟨rfl, HE.out, HG.out⟩
end Go.Proofs.Ytmahigfamgbhfaa
