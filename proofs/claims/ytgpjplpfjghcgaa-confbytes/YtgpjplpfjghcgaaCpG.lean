/- conf.readConf: the walk. -/
import Derived.Test.YtgpjplpfjghcgaaCpF
namespace Go.Proofs.Ytgpjplpfjghcgaa
open Go Go.RowKit
set_option linter.unusedVariables false
set_option linter.unusedSimpArgs false

set_option maxRecDepth 100000 in
set_option maxHeartbeats 4000000 in
theorem readConf_any (g : Nat) (st : Option (List Nat)) (w : World) (h : Rd w g st) :
    Calls Try.prog 47 #[.pointer (some ⟨g, 0, none⟩)] w fun e w' => (∃ v, e = .returned v ∧ Cfo w' w.heap.size v (readC st)) ∧ Rd w' g (rdL st).2 ∧ Only g w w' := by
  obtain ⟨r, hr⟩ : ∃ r, r = readC st := ⟨_, rfl⟩
  obtain ⟨r2, hr2⟩ : ∃ r2, r2 = (rdL st).2 := ⟨_, rfl⟩
  rw [← hr, ← hr2]
  have HR : Hid (r = readC st) := hr
  have HR2 : Hid (r2 = (rdL st).2) := hr2
  clear hr hr2
  have HG : Hid (g < w.heap.size) := h.lt
  have hb0 : Below w.heap.size w (w.alloc (.cells #[.int .u64 0, .int .i64 0, .slice none 0 0, .slice none 0 0, .int .i64 0] 29)) := (Below.refl _ _).alloc (Nat.le_refl _) _
  have HZ0 : Hid ((w.alloc (.cells #[.int .u64 0, .int .i64 0, .slice none 0 0, .slice none 0 0, .int .i64 0] 29)).heap[w.heap.size]? = some (.cells #[.int .u64 0, .int .i64 0, .slice none 0 0, .slice none 0 0, .int .i64 0] 29)) := heap_alloc_new _ _
  have HD0 : Hid (Rd (w.alloc (.cells #[.int .u64 0, .int .i64 0, .slice none 0 0, .slice none 0 0, .int .i64 0] 29)) g st) := h.later hb0
  have HO0 : Hid (Only g w (w.alloc (.cells #[.int .u64 0, .int .i64 0, .slice none 0 0, .slice none 0 0, .int .i64 0] 29))) := (Only.refl g w).then hb0
  have hcall := n_any g st _ HD0.out
  clear hb0 h
  generalize hW : w.alloc (.cells #[.int .u64 0, .int .i64 0, .slice none 0 0, .slice none 0 0, .int .i64 0] 29) = w0 at *
  go_enter Try.func47, Try.ntmps47
  go_wp2_with fail
  refine hcall.mono ?_
  clear hcall hW
  rintro e w1 ⟨rfl, hd1, ho1⟩
  have HD1 : Hid (Rd w1 g (rdE st).2) := hd1
  have HO1 : Hid (Only g w w1) := HO0.out.trans ho1
  have HZ1 : Hid (w1.heap[w.heap.size]? = some (.cells #[.int .u64 0, .int .i64 0, .slice none 0 0, .slice none 0 0, .int .i64 0] 29)) := heap_grown HZ0.out ho1 HD0.out.tag (by decide)
  have hcall := int_any g 3 _ _ hd1 (by decide)
  clear hd1 ho1 HD0 HO0 HZ0
  have he0 : (Oct.atMost 18446744073709551615 st).1 = (rdE st).1 := rfl
  rw [he0]
  have HE : Hid ((rdE st).1 = (rdE st).1) := rfl
  clear he0
  go_wp2_with fail
  refine hcall.mono ?_
  clear hcall
  rintro e w2 ⟨rfl, hd2, ho2⟩
  have HO2 : Hid (Only g w w2) := HO1.out.trans ho2
  have HZ2 : Hid (w2.heap[w.heap.size]? = some (.cells #[.int .u64 0, .int .i64 0, .slice none 0 0, .slice none 0 0, .int .i64 0] 29)) := heap_grown HZ1.out ho2 HD1.out.tag (by decide)
  have hd3 : Rd w2 g (rdS st).2 := hd2
  have he0 : (Oct.atMostI 3 (Oct.atMost 18446744073709551615 st).2).1 = (rdS st).1 := rfl
  rw [he0]
  clear he0 hd2 ho2 HD1 HO1 HZ1
  have hb3 : Below w2.heap.size w2 (w2.alloc (.cells #[.int .u64 0, .int .i64 0, .slice none 0 0, .slice none 0 0, .int .i64 0] 29)) := (Below.refl _ _).alloc (Nat.le_refl _) _
  have hlt := (Array.getElem?_eq_some_iff.1 HZ2.out).1
  have hrr : Rr w (w2.alloc (.cells #[.int .u64 0, .int .i64 0, .slice none 0 0, .slice none 0 0, .int .i64 0] 29)) g w2.heap.size (rdS st).2 #[.int .u64 0, .int .i64 0, .slice none 0 0, .slice none 0 0, .int .i64 0] (.slice none 0 0) [] (.slice none 0 0) [] :=
    ⟨hd3.later hb3, HO2.out.then (hb3.mono HO2.out.size), HG.out, hlt, heap_kept HZ2.out hb3, heap_alloc_new _ _, OwnV.nil _ _ _, OwnV.nil _ _ _⟩
  generalize hw3 : w2.alloc (.cells #[.int .u64 0, .int .i64 0, .slice none 0 0, .slice none 0 0, .int .i64 0] 29) = w3 at *
  generalize hp : w2.heap.size = p at *
  have HX : Hid (Rr w w3 g p (rdS st).2 #[.int .u64 0, .int .i64 0, .slice none 0 0, .slice none 0 0, .int .i64 0] (.slice none 0 0) [] (.slice none 0 0) []) := hrr
  clear hrr hb3 hd3 hlt HO2 HZ2
  generalize hep : (rdE st).1 = ep at *
  generalize hsh : (rdS st).1 = sh at *
  have HEP : Hid ((rdE st).1 = ep ∧ (rdS st).1 = sh) := ⟨hep, hsh⟩
  clear hep hsh HE
  obtain ⟨z0, z1, z2, z3, z4⟩ := five_cells HX.out.box
  obtain ⟨g0, g1, g2, g3, g4⟩ := five_frozen HX.out.box
  go_upto_region 2 with fail
  clear z0 z1 z2 z3 z4 g0 g1 g2 g3 g4 hw3 hp
  have HX4 : Hid (Rr w (put5 w3 p (.int .u64 (ep : Nat)) (.int .i64 (sh : Nat)) (.slice none 0 0) (.slice none 0 0) (.int .i64 0)) g p (rdS st).2 (carr ep (sh : Nat) (.slice none 0 0) (.slice none 0 0) 0) (.slice none 0 0) [] (.slice none 0 0) []) := ((((HX.out.stored (i := 0) (.int .u64 (ep : Nat))).stored (i := 1) (.int .i64 (sh : Nat))).stored (i := 2) (.slice none 0 0)).stored (i := 3) (.slice none 0 0)).stored (i := 4) (.int .i64 0)
  show Code.wp _ _ _ _ (put5 w3 p (.int .u64 (ep : Nat)) (.int .i64 (sh : Nat)) (.slice none 0 0) (.slice none 0 0) (.int .i64 0))
  generalize put5 w3 p (.int .u64 (ep : Nat)) (.int .i64 (sh : Nat)) (.slice none 0 0) (.slice none 0 0) (.int .i64 0) = w4 at *
  clear HX
  have hcall := int_any g 8 _ _ HX4.out.rd (by decide)
  go_wp2_with fail
  refine hcall.mono ?_
  clear hcall
  rintro e w5 ⟨rfl, hd5, ho5⟩
  obtain ⟨NS, hNS⟩ : ∃ NS, NS = rdN st := ⟨_, rfl⟩
  have e5 : Oct.atMostI 8 (rdS st).2 = NS := hNS.symm
  rw [e5] at hd5
  rw [e5]
  have HNS : Hid (NS = rdN st) := hNS
  have HX5 : Hid (Rr w w5 g p NS.2 (carr ep (sh : Nat) (.slice none 0 0) (.slice none 0 0) 0) (.slice none 0 0) [] (.slice none 0 0) []) := HX4.out.call hd5 ho5
  have hn8 : NS.1 ≤ 8 := by
    rw [hNS]
    exact (Oct.atMost_lt 8 (rdS st).2 HX4.out.rd.bytes).1
  clear e5 hNS hd5 ho5 HX4
  obtain ⟨n, st5⟩ := NS
  simp only at hn8 HX5
  go_wp2
  go_loopw [11] (fun i wr => ∃ k : Nat, k ≤ n ∧ i = .int .i64 (k : Nat) ∧ Hid (∃ a m c b d, (readMs k st5).1.length = m ∧ Rr w wr g p (readMs k st5).2 (carr ep (sh : Nat) (.slice a m c) (.slice b m d) 0) (.slice a m c) ((readMs k st5).1.map mi) (.slice b m d) ((readMs k st5).1.map mb))) (fun i _ => n - (intOf i).toNat)
  case atStart => exact ⟨0, Nat.zero_le _, rfl, none, 0, 0, none, 0, rfl, HX5.out⟩
  case round =>
    obtain ⟨k, hk, rfl, HP⟩ := hrel
    obtain ⟨a, m, c, b, d, hm, hp⟩ := HP.out
    clear HP
    have HM : Hid ((readMs k st5).1.length = m) := hm
    have hm8 : m ≤ 8 := by rw [← hm, readMs_length]; omega
    clear hm
    have HS : Hid (readMs (k + 1) st5 = ((readMs k st5).1 ++ [(((Oct.atMostI 7 (readMs k st5).2).1 : Int), ((Oct.atMost 1 (Oct.atMostI 7 (readMs k st5).2).2).1 : Int) == 1)], (Oct.atMost 1 (Oct.atMostI 7 (readMs k st5).2).2).2)) := rfl
    have HK : Hid (readMs k st5 = readMs k st5) := rfl
    by_cases hlt : k < n
    · generalize readMs k st5 = ML at *
      obtain ⟨l, sk⟩ := ML
      simp only at hp HM HS
      have HX : Hid (Rr w wr g p sk (carr ep (sh : Nat) (.slice a m c) (.slice b m d) 0) (.slice a m c) (l.map mi) (.slice b m d) (l.map mb)) := hp
      clear hp HK
      go_upto_region 4 with fail
      have HXD : Hid (Rr w wr.drew g p sk (carr ep (sh : Nat) (.slice a m c) (.slice b m d) 0) (.slice a m c) (l.map mi) (.slice b m d) (l.map mb)) := HX.out.later (Below.refl _ _).drew
      have hc2 : wr.drew.cell? ⟨p, 2, none⟩ = some (.slice a m c) := cell_of_heap HXD.out.box rfl
      refine wp_region_noPanic ?_
      refine wp_region_letz 7 (fun w' => w'.cell? ⟨p, 2, none⟩ = some (.slice a m c)) (by kernel_rfl) ?_ (fun hHeld => ?_)
      · exact hc2
      refine letz_take (i := 0) (d := 13) (v := ?_) rfl rfl (by kernel_rfl) (by kernel_rfl) (by kernel_rfl) (by kernel_rfl) (fun _ _ _ h => h) (Or.inl ⟨by rfl, ?_⟩) hHeld ?_
      rotate_left
      · (intro w hSw; (try dsimp only at hSw); go_simp; all_goals (with_reducible rfl))
      try simp only [Act.put, List.setIfInBounds_toArray, List.set_cons_zero, List.set_cons_succ]
      refine letz_take (i := 1) (d := 14) (v := ?_) rfl rfl (by kernel_rfl) (by kernel_rfl) (by kernel_rfl) (by kernel_rfl) (fun _ _ _ h => h) (Or.inl ⟨by rfl, ?_⟩) hHeld ?_
      rotate_left
      · (intro w hSw; (try dsimp only at hSw); go_simp; all_goals (with_reducible rfl))
      try simp only [Act.put, List.setIfInBounds_toArray, List.set_cons_zero, List.set_cons_succ]
      refine letz_take (i := 2) (d := 15) (v := ?_) rfl rfl (by kernel_rfl) (by kernel_rfl) (by kernel_rfl) (by kernel_rfl) (fun _ _ _ h => h) (Or.inl ⟨by rfl, ?_⟩) hHeld ?_
      rotate_left
      · (intro w hSw; (try dsimp only at hSw); go_simp; all_goals (with_reducible rfl))
      try simp only [Act.put, List.setIfInBounds_toArray, List.set_cons_zero, List.set_cons_succ]
      clear HX
      generalize wr.drew = wD at *
      have HX := HXD
      clear HXD hc2
      refine letz_one (i := 3) (by kernel_rfl) rfl (fun K hK => ?_)
      go_simp
      refine (int_any g 7 _ _ HX.out.rd (by decide)).mono ?_
      rintro e w7 ⟨rfl, hd7, ho7⟩
      obtain ⟨X1, hX1⟩ : ∃ X1, X1 = Oct.atMostI 7 sk := ⟨_, rfl⟩
      rw [← hX1] at hd7 ⊢
      rw [Hid, ← hX1] at HS
      clear hX1
      obtain ⟨x1, s1⟩ := X1
      simp only at hd7 HS ⊢
      have HX7 : Hid (Rr w w7 g p s1 (carr ep (sh : Nat) (.slice a m c) (.slice b m d) 0) (.slice a m c) (l.map mi) (.slice b m d) (l.map mb)) := HX.out.call hd7 ho7
      clear hd7 ho7 HX
      go_wp2_with fail
      refine hK.out _ _ ?_ (fun hHeld => ?_)
      · exact fun _ => cell_of_heap HX7.out.box rfl
      replace hHeld := hHeld (by kernel_rfl)
      clear hK K
      try simp only [Act.put, List.setIfInBounds_toArray, List.set_cons_zero, List.set_cons_succ]
      refine letz_one (i := 4) (by kernel_rfl) rfl (fun K hK => ?_)
      go_simp
      have ha : Below w7.heap.size w7 (w7.alloc (.cells #[.int .i64 (x1 : Nat)] 3)) := (Below.refl _ _).alloc (Nat.le_refl _) _
      have hc : (w7.alloc (.cells #[.int .i64 (x1 : Nat)] 3)).heap[w7.heap.size]? = some (.cells #[.int .i64 (x1 : Nat)] 3) := heap_alloc_new _ _
      have HX8 : Hid (Rr w (w7.alloc (.cells #[.int .i64 (x1 : Nat)] 3)) g p s1 (carr ep (sh : Nat) (.slice a m c) (.slice b m d) 0) (.slice a m c) (l.map mi) (.slice b m d) (l.map mb)) := HX7.out.later ha
      refine hK.out _ _ ?_ (fun hHeld => ?_)
      · exact fun _ => cell_of_heap HX8.out.box rfl
      replace hHeld := hHeld (by kernel_rfl)
      clear hK K
      try simp only [Act.put, List.setIfInBounds_toArray, List.set_cons_zero, List.set_cons_succ]
      generalize hgs : w7.heap.size = pg at *
      generalize (w7.alloc (.cells #[.int .i64 (x1 : Nat)] 3)) = w8 at *
      clear ha hgs HX7
      refine letz_one (i := 5) (by kernel_rfl) rfl (fun K hK => ?_)
      refine step_append_fr 26 3 _ 8 Try.underlying26 Try.info_3 rfl (by decide) rfl _ _ rfl w.heap.size _ _ rfl HX8.out.oa ⟨pg, 0, none⟩ 1 (.int .i64 (x1 : Nat)) rfl (cell_of_heap hc rfl) rfl (by have := HM.out; simp; omega) HX8.out.size ?_
      intro vv w9 ho hf
      obtain ⟨a2, n2, c2, rfl⟩ := owns_slice ho
      have HX9 : Hid (Rr w w9 g p s1 (carr ep (sh : Nat) (.slice a m c) (.slice b m d) 0) (.slice a2 n2 c2) (l.map mi ++ [.int .i64 (x1 : Nat)]) (.slice b m d) (l.map mb)) := HX8.out.grewA hf ho
      refine hK.out _ _ ?_ (fun hHeld => ?_)
      · exact fun _ => cell_of_heap HX9.out.box rfl
      replace hHeld := hHeld (by kernel_rfl)
      clear hK K
      try simp only [Act.put, List.setIfInBounds_toArray, List.set_cons_zero, List.set_cons_succ]
      clear ho hf hc HX8
      refine letz_take (i := 6) (d := 19) (v := ?_) rfl rfl (by kernel_rfl) (by kernel_rfl) (by kernel_rfl) (by kernel_rfl) (fun _ _ _ h => h) (Or.inl ⟨by rfl, ?_⟩) hHeld ?_
      rotate_left
      · (intro w hSw; (try dsimp only at hSw); go_simp; all_goals (with_reducible rfl))
      try simp only [Act.put, List.setIfInBounds_toArray, List.set_cons_zero, List.set_cons_succ]
      have e2 : w9.cell? ⟨p, 2, none⟩ = some (.slice a m c) := cell_of_heap HX9.out.box rfl
      have f2 : w9.frozen? ⟨p, 2, none⟩ = false := frozen_of_row _ _ _ _ _ HX9.out.box
      have HXE : Hid (Rr w (w9.setCell ⟨p, 2, none⟩ (.slice a2 n2 c2)) g p s1 (carr ep (sh : Nat) (.slice a2 n2 c2) (.slice b m d) 0) (.slice a2 n2 c2) (l.map mi ++ [.int .i64 (x1 : Nat)]) (.slice b m d) (l.map mb)) := HX9.out.stored (i := 2) (.slice a2 n2 c2)
      clear HX9
      refine letz_one (i := 7) (by kernel_rfl) rfl (fun K hK => ?_)
      go_simp
      refine hK.out _ _ ?_ (fun hHeld => ?_)
      · exact fun h => absurd h (by decide)
      clear hHeld
      clear hK K
      try simp only [Act.put, List.setIfInBounds_toArray, List.set_cons_zero, List.set_cons_succ]
      refine letz_done (by kernel_rfl) ?_ _
      refine NoPanic.normal ?_
      generalize (w9.setCell ⟨p, 2, none⟩ (.slice a2 n2 c2)) = wE at *
      have HX := HXE
      clear HXE e2 f2
      go_upto_region 5 with fail
      have HXD : Hid (Rr w wE.drew g p s1 (carr ep (sh : Nat) (.slice a2 n2 c2) (.slice b m d) 0) (.slice a2 n2 c2) (l.map mi ++ [.int .i64 (x1 : Nat)]) (.slice b m d) (l.map mb)) := HX.out.later (Below.refl _ _).drew
      have hc2 : wE.drew.cell? ⟨p, 3, none⟩ = some (.slice b m d) := cell_of_heap HXD.out.box rfl
      refine wp_region_noPanic ?_
      refine wp_region_letz 7 (fun w' => w'.cell? ⟨p, 3, none⟩ = some (.slice b m d)) (by kernel_rfl) ?_ (fun hHeld => ?_)
      · exact hc2
      refine letz_take (i := 0) (d := 20) (v := ?_) rfl rfl (by kernel_rfl) (by kernel_rfl) (by kernel_rfl) (by kernel_rfl) (fun _ _ _ h => h) (Or.inl ⟨by rfl, ?_⟩) hHeld ?_
      rotate_left
      · (intro w hSw; (try dsimp only at hSw); go_simp; all_goals (with_reducible rfl))
      try simp only [Act.put, List.setIfInBounds_toArray, List.set_cons_zero, List.set_cons_succ]
      refine letz_take (i := 1) (d := 21) (v := ?_) rfl rfl (by kernel_rfl) (by kernel_rfl) (by kernel_rfl) (by kernel_rfl) (fun _ _ _ h => h) (Or.inl ⟨by rfl, ?_⟩) hHeld ?_
      rotate_left
      · (intro w hSw; (try dsimp only at hSw); go_simp; all_goals (with_reducible rfl))
      try simp only [Act.put, List.setIfInBounds_toArray, List.set_cons_zero, List.set_cons_succ]
      refine letz_take (i := 2) (d := 22) (v := ?_) rfl rfl (by kernel_rfl) (by kernel_rfl) (by kernel_rfl) (by kernel_rfl) (fun _ _ _ h => h) (Or.inl ⟨by rfl, ?_⟩) hHeld ?_
      rotate_left
      · (intro w hSw; (try dsimp only at hSw); go_simp; all_goals (with_reducible rfl))
      try simp only [Act.put, List.setIfInBounds_toArray, List.set_cons_zero, List.set_cons_succ]
      clear HX
      generalize wE.drew = wD at *
      have HX := HXD
      clear HXD hc2
      refine letz_one (i := 3) (by kernel_rfl) rfl (fun K hK => ?_)
      go_simp
      refine (flag_any g _ _ HX.out.rd).mono ?_
      rintro e w7 ⟨rfl, hd7, ho7⟩
      obtain ⟨X2, hX2⟩ : ∃ X2, X2 = Oct.atMost 1 s1 := ⟨_, rfl⟩
      rw [← hX2] at hd7 ⊢
      rw [← hX2] at HS
      clear hX2
      obtain ⟨x2, s2⟩ := X2
      simp only at hd7 HS ⊢
      have HX7 : Hid (Rr w w7 g p s2 (carr ep (sh : Nat) (.slice a2 n2 c2) (.slice b m d) 0) (.slice a2 n2 c2) (l.map mi ++ [.int .i64 (x1 : Nat)]) (.slice b m d) (l.map mb)) := HX.out.call hd7 ho7
      clear hd7 ho7 HX
      go_wp2_with fail
      refine hK.out _ _ ?_ (fun hHeld => ?_)
      · exact fun _ => cell_of_heap HX7.out.box rfl
      replace hHeld := hHeld (by kernel_rfl)
      clear hK K
      try simp only [Act.put, List.setIfInBounds_toArray, List.set_cons_zero, List.set_cons_succ]
      generalize hfl : ((x2 : Int) == 1) = fl at *
      refine letz_one (i := 4) (by kernel_rfl) rfl (fun K hK => ?_)
      go_simp
      have ha : Below w7.heap.size w7 (w7.alloc (.cells #[.bool fl] 4)) := (Below.refl _ _).alloc (Nat.le_refl _) _
      have hc : (w7.alloc (.cells #[.bool fl] 4)).heap[w7.heap.size]? = some (.cells #[.bool fl] 4) := heap_alloc_new _ _
      have HX8 : Hid (Rr w (w7.alloc (.cells #[.bool fl] 4)) g p s2 (carr ep (sh : Nat) (.slice a2 n2 c2) (.slice b m d) 0) (.slice a2 n2 c2) (l.map mi ++ [.int .i64 (x1 : Nat)]) (.slice b m d) (l.map mb)) := HX7.out.later ha
      refine hK.out _ _ ?_ (fun hHeld => ?_)
      · exact fun _ => cell_of_heap HX8.out.box rfl
      replace hHeld := hHeld (by kernel_rfl)
      clear hK K
      try simp only [Act.put, List.setIfInBounds_toArray, List.set_cons_zero, List.set_cons_succ]
      generalize hgs : w7.heap.size = pg at *
      generalize (w7.alloc (.cells #[.bool fl] 4)) = w8 at *
      clear ha hgs HX7
      refine letz_one (i := 5) (by kernel_rfl) rfl (fun K hK => ?_)
      refine step_append_fr 27 4 _ 1 Try.underlying27 Try.info_4 rfl (by decide) rfl _ _ rfl w.heap.size _ _ rfl HX8.out.ob ⟨pg, 0, none⟩ 1 (.bool fl) rfl (cell_of_heap hc rfl) rfl (by have := HM.out; simp; omega) HX8.out.size ?_
      intro vv w9 ho hf
      obtain ⟨b2, m2, d2, rfl⟩ := owns_slice ho
      have HX9 : Hid (Rr w w9 g p s2 (carr ep (sh : Nat) (.slice a2 n2 c2) (.slice b m d) 0) (.slice a2 n2 c2) (l.map mi ++ [.int .i64 (x1 : Nat)]) (.slice b2 m2 d2) (l.map mb ++ [.bool fl])) := HX8.out.grewB hf ho
      refine hK.out _ _ ?_ (fun hHeld => ?_)
      · exact fun _ => cell_of_heap HX9.out.box rfl
      replace hHeld := hHeld (by kernel_rfl)
      clear hK K
      try simp only [Act.put, List.setIfInBounds_toArray, List.set_cons_zero, List.set_cons_succ]
      clear ho hf hc HX8
      refine letz_take (i := 6) (d := 26) (v := ?_) rfl rfl (by kernel_rfl) (by kernel_rfl) (by kernel_rfl) (by kernel_rfl) (fun _ _ _ h => h) (Or.inl ⟨by rfl, ?_⟩) hHeld ?_
      rotate_left
      · (intro w hSw; (try dsimp only at hSw); go_simp; all_goals (with_reducible rfl))
      try simp only [Act.put, List.setIfInBounds_toArray, List.set_cons_zero, List.set_cons_succ]
      have e2 : w9.cell? ⟨p, 3, none⟩ = some (.slice b m d) := cell_of_heap HX9.out.box rfl
      have f2 : w9.frozen? ⟨p, 3, none⟩ = false := frozen_of_row _ _ _ _ _ HX9.out.box
      have HXE : Hid (Rr w (w9.setCell ⟨p, 3, none⟩ (.slice b2 m2 d2)) g p s2 (carr ep (sh : Nat) (.slice a2 n2 c2) (.slice b2 m2 d2) 0) (.slice a2 n2 c2) (l.map mi ++ [.int .i64 (x1 : Nat)]) (.slice b2 m2 d2) (l.map mb ++ [.bool fl])) := HX9.out.stored (i := 3) (.slice b2 m2 d2)
      clear HX9
      refine letz_one (i := 7) (by kernel_rfl) rfl (fun K hK => ?_)
      go_simp
      refine hK.out _ _ ?_ (fun hHeld => ?_)
      · exact fun h => absurd h (by decide)
      clear hHeld
      clear hK K
      try simp only [Act.put, List.setIfInBounds_toArray, List.set_cons_zero, List.set_cons_succ]
      refine letz_done (by kernel_rfl) ?_ _
      refine NoPanic.normal ?_
      generalize (w9.setCell ⟨p, 3, none⟩ (.slice b2 m2 d2)) = wF at *
      have HX := HXE
      clear HXE e2 f2
      go_wp2
      go_roundw
      case rel =>
        obtain ⟨a9, c9, e9, _⟩ := Vals.own HX.out.oa
        obtain ⟨a8, c8, e8, _⟩ := Vals.own HX.out.ob
        simp only [Value.slice.injEq, List.length_append, List.length_map, List.length_cons, List.length_nil] at e9 e8
        obtain rfl : m2 = n2 := e8.2.1.trans e9.2.1.symm
        refine ⟨k + 1, by omega, by go_num, a2, m2, c2, b2, d2, ?_⟩
        rw [HS]
        refine ⟨?_, ?_⟩
        · rw [e9.2.1]
          simp
        · have e1 : (l ++ [((x1 : Int), fl)]).map mi = l.map mi ++ [.int .i64 (x1 : Nat)] := by simp [mi]
          have e2 : (l ++ [((x1 : Int), fl)]).map mb = l.map mb ++ [.bool fl] := by simp [mb]
          rw [e1, e2]
          exact HX.out
      case measure => simp [intOf]; omega
    · obtain rfl : k = n := by omega
      generalize hML : readMs k st5 = ML at *
      have HML : Hid (readMs k st5 = ML) := hML
      obtain ⟨l, sk⟩ := ML
      simp only at hp HM
      have HX : Hid (Rr w wr g p sk (carr ep (sh : Nat) (.slice a m c) (.slice b m d) 0) (.slice a m c) (l.map mi) (.slice b m d) (l.map mb)) := hp
      clear hp HK HS hML
      have hcall := int_any g 8 _ _ HX.out.rd (by decide)
      go_wp2_with fail
      refine hcall.mono ?_
      clear hcall
      rintro e w7 ⟨rfl, hd7, ho7⟩
      obtain ⟨XL, hXL⟩ : ∃ XL, XL = Oct.atMostI 8 sk := ⟨_, rfl⟩
      rw [← hXL] at hd7 ⊢
      have HXL : Hid (XL = Oct.atMostI 8 sk) := hXL
      clear hXL
      obtain ⟨le, sl⟩ := XL
      simp only at hd7 ⊢
      have HX7 : Hid (Rr w w7 g p sl (carr ep (sh : Nat) (.slice a m c) (.slice b m d) 0) (.slice a m c) (l.map mi) (.slice b m d) (l.map mb)) := HX.out.call hd7 ho7
      clear hd7 ho7 HX
      have hst : readC st = ⟨ep, (sh : Nat), l, if (le : Int) = 8 then -1 else (le : Nat)⟩ ∧ (rdL st).2 = sl := by
        have h1 : rdM st = (l, sk) := by unfold rdM; rw [← HNS.out]; exact HML.out
        have h2 : rdL st = (le, sl) := by unfold rdL; rw [h1]; exact HXL.out.symm
        refine ⟨?_, by rw [h2]⟩
        unfold readC
        rw [h1, h2, HEP.out.1, HEP.out.2]
      have HST : Hid (readC st = ⟨ep, (sh : Nat), l, if (le : Int) = 8 then -1 else (le : Nat)⟩ ∧ (rdL st).2 = sl) := hst
      clear hst
      obtain ⟨z0, z1, z2, z3, z4⟩ := five_cells HX7.out.box
      obtain ⟨g0, g1, g2, g3, g4⟩ := five_frozen HX7.out.box
      go_upto_region 8 with fail
      clear z0 z1 z2 z3 z4 g0 g1 g2 g3 g4
      have HX8 : Hid (Rr w (w7.setCell ⟨p, 4, none⟩ (.int .i64 (le : Nat))) g p sl (carr ep (sh : Nat) (.slice a m c) (.slice b m d) (le : Nat)) (.slice a m c) (l.map mi) (.slice b m d) (l.map mb)) := HX7.out.stored (i := 4) _
      generalize w7.setCell ⟨p, 4, none⟩ (.int .i64 (le : Nat)) = w8 at *
      clear HX7
      obtain ⟨z0, z1, z2, z3, z4⟩ := five_cells HX8.out.box
      obtain ⟨g0, g1, g2, g3, g4⟩ := five_frozen HX8.out.box
      obtain ⟨y0, y1, y2, y3, y4⟩ := five_cells HX8.out.zero
      obtain ⟨f0, f1, f2, f3, f4⟩ := five_frozen HX8.out.zero
      by_cases h8 : (le : Int) = 8
      · go_upto_region 10 with fail
        clear z0 z1 z2 z3 z4 g0 g1 g2 g3 g4 y0 y1 y2 y3 y4 f0 f1 f2 f3 f4
        have HX9 : Hid (Rr w (w8.setCell ⟨p, 4, none⟩ (.int .i64 (-1))) g p sl (carr ep (sh : Nat) (.slice a m c) (.slice b m d) (-1)) (.slice a m c) (l.map mi) (.slice b m d) (l.map mb)) := HX8.out.stored (i := 4) _
        generalize w8.setCell ⟨p, 4, none⟩ (.int .i64 (-1)) = w9 at *
        have HL : Hid ((if (le : Int) = 8 then (-1 : Int) else (le : Nat)) = -1) := by rw [Hid, if_pos h8]
        clear HX8 h8
        obtain ⟨z0, z1, z2, z3, z4⟩ := five_cells HX9.out.box
        obtain ⟨y0, y1, y2, y3, y4⟩ := five_cells HX9.out.zero
        obtain ⟨f0, f1, f2, f3, f4⟩ := five_frozen HX9.out.zero
        have HP : Hid ((put5 w9 w.heap.size (.int .u64 (ep : Nat)) (.int .i64 (sh : Nat)) (.slice a m c) (.slice b m d) (.int .i64 (-1))).heap[w.heap.size]? = some (.cells (carr ep (sh : Nat) (.slice a m c) (.slice b m d) (-1)) 29)) := five_put HX9.out.zero
        have hbb : Below w.heap.size w9 (put5 w9 w.heap.size (.int .u64 (ep : Nat)) (.int .i64 (sh : Nat)) (.slice a m c) (.slice b m d) (.int .i64 (-1))) := below_put5 (Below.refl _ _) (Nat.le_refl _) _ _ _ _ _
        have HE : Hid (Cfo (put5 w9 w.heap.size (.int .u64 (ep : Nat)) (.int .i64 (sh : Nat)) (.slice a m c) (.slice b m d) (.int .i64 (-1))) w.heap.size (.agg (carr ep (sh : Nat) (.slice a m c) (.slice b m d) (-1))) r ∧ Rd (put5 w9 w.heap.size (.int .u64 (ep : Nat)) (.int .i64 (sh : Nat)) (.slice a m c) (.slice b m d) (.int .i64 (-1))) g r2 ∧ Only g w (put5 w9 w.heap.size (.int .u64 (ep : Nat)) (.int .i64 (sh : Nat)) (.slice a m c) (.slice b m d) (.int .i64 (-1)))) := by
          refine ⟨⟨.slice a m c, .slice b m d, ?_, ?_, ?_, ?_⟩, ?_, HX9.out.only.then hbb⟩
          · rw [HR.out, HST.out.1, HL.out]
          · rw [HR.out, HST.out.1]; exact own_same HX9.out.oa (fun k _ ht => put5_other _ _ _ _ _ (tag_ne HX9.out.zero (by decide) ht))
          · rw [HR.out, HST.out.1]; exact own_same HX9.out.ob (fun k _ ht => put5_other _ _ _ _ _ (tag_ne HX9.out.zero (by decide) ht))
          · rw [HR.out, HST.out.1]; have := HM.out; show l.length ≤ 1000; omega
          · rw [HR2.out, HST.out.2]; exact HX9.out.rd.below hbb HG.out
        clear hbb HX9
        go_wp2
        clear z0 z1 z2 z3 z4 y0 y1 y2 y3 y4 f0 f1 f2 f3 f4
        unfold put5 at HP HE
        generalize (((((w9.setCell ⟨w.heap.size, 0, none⟩ (.int .u64 (ep : Nat))).setCell ⟨w.heap.size, 1, none⟩ (.int .i64 (sh : Nat))).setCell ⟨w.heap.size, 2, none⟩ (.slice a m c)).setCell ⟨w.heap.size, 3, none⟩ (.slice b m d)).setCell ⟨w.heap.size, 4, none⟩ (.int .i64 (-1))) = wz at *
        obtain ⟨z0, z1, z2, z3, z4⟩ := five_cells HP.out
        refine bodyPost_ret (v := .agg (carr ep (sh : Nat) (.slice a m c) (.slice b m d) (-1))) (by simp [results, Try.results47, go_sem, z0, z1, z2, z3, z4]) rfl ?_
        exact ⟨⟨_, rfl, HE.out.1⟩, HE.out.2⟩
      · go_upto_region 10 with fail
        have HL : Hid ((if (le : Int) = 8 then (-1 : Int) else (le : Nat)) = (le : Nat)) := by rw [Hid, if_neg h8]
        clear h8 z0 z1 z2 z3 z4 g0 g1 g2 g3 g4 y0 y1 y2 y3 y4 f0 f1 f2 f3 f4
        obtain ⟨z0, z1, z2, z3, z4⟩ := five_cells HX8.out.box
        obtain ⟨y0, y1, y2, y3, y4⟩ := five_cells HX8.out.zero
        obtain ⟨f0, f1, f2, f3, f4⟩ := five_frozen HX8.out.zero
        have HP : Hid ((put5 w8 w.heap.size (.int .u64 (ep : Nat)) (.int .i64 (sh : Nat)) (.slice a m c) (.slice b m d) (.int .i64 (le : Nat))).heap[w.heap.size]? = some (.cells (carr ep (sh : Nat) (.slice a m c) (.slice b m d) (le : Nat)) 29)) := five_put HX8.out.zero
        have hbb : Below w.heap.size w8 (put5 w8 w.heap.size (.int .u64 (ep : Nat)) (.int .i64 (sh : Nat)) (.slice a m c) (.slice b m d) (.int .i64 (le : Nat))) := below_put5 (Below.refl _ _) (Nat.le_refl _) _ _ _ _ _
        have HE : Hid (Cfo (put5 w8 w.heap.size (.int .u64 (ep : Nat)) (.int .i64 (sh : Nat)) (.slice a m c) (.slice b m d) (.int .i64 (le : Nat))) w.heap.size (.agg (carr ep (sh : Nat) (.slice a m c) (.slice b m d) (le : Nat))) r ∧ Rd (put5 w8 w.heap.size (.int .u64 (ep : Nat)) (.int .i64 (sh : Nat)) (.slice a m c) (.slice b m d) (.int .i64 (le : Nat))) g r2 ∧ Only g w (put5 w8 w.heap.size (.int .u64 (ep : Nat)) (.int .i64 (sh : Nat)) (.slice a m c) (.slice b m d) (.int .i64 (le : Nat)))) := by
          refine ⟨⟨.slice a m c, .slice b m d, ?_, ?_, ?_, ?_⟩, ?_, HX8.out.only.then hbb⟩
          · rw [HR.out, HST.out.1, HL.out]
          · rw [HR.out, HST.out.1]; exact own_same HX8.out.oa (fun k _ ht => put5_other _ _ _ _ _ (tag_ne HX8.out.zero (by decide) ht))
          · rw [HR.out, HST.out.1]; exact own_same HX8.out.ob (fun k _ ht => put5_other _ _ _ _ _ (tag_ne HX8.out.zero (by decide) ht))
          · rw [HR.out, HST.out.1]; have := HM.out; show l.length ≤ 1000; omega
          · rw [HR2.out, HST.out.2]; exact HX8.out.rd.below hbb HG.out
        clear hbb HX8
        go_wp2
        clear z0 z1 z2 z3 z4 y0 y1 y2 y3 y4 f0 f1 f2 f3 f4
        unfold put5 at HP HE
        generalize (((((w8.setCell ⟨w.heap.size, 0, none⟩ (.int .u64 (ep : Nat))).setCell ⟨w.heap.size, 1, none⟩ (.int .i64 (sh : Nat))).setCell ⟨w.heap.size, 2, none⟩ (.slice a m c)).setCell ⟨w.heap.size, 3, none⟩ (.slice b m d)).setCell ⟨w.heap.size, 4, none⟩ (.int .i64 (le : Nat))) = wz at *
        obtain ⟨z0, z1, z2, z3, z4⟩ := five_cells HP.out
        refine bodyPost_ret (v := .agg (carr ep (sh : Nat) (.slice a m c) (.slice b m d) (le : Nat))) (by simp [results, Try.results47, go_sem, z0, z1, z2, z3, z4]) rfl ?_
        exact ⟨⟨_, rfl, HE.out.1⟩, HE.out.2⟩
end Go.Proofs.Ytgpjplpfjghcgaa
