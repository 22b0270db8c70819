/- entry.readTxn: the walk. -/
import Derived.Test.YteokhedljfakkaaDoorEnRa
namespace Go.Proofs.YteokhedljfakkaaDoor
open Go Go.RowKit
set_option linter.unusedVariables false
set_option linter.unusedSimpArgs false

abbrev put5 (w : World) (g : Nat) (a b c d e : Value) : World := ((((w.setCell ⟨g, 0, none⟩ a).setCell ⟨g, 1, none⟩ b).setCell ⟨g, 2, none⟩ c).setCell ⟨g, 3, none⟩ d).setCell ⟨g, 4, none⟩ e
theorem five_put {w : World} {g : Nat} {a b c d e a' b' c' d' e' : Value} {t : TypeId} (h : w.heap[g]? = some (.cells #[a, b, c, d, e] t (0, 0))) : (put5 w g a' b' c' d' e').heap[g]? = some (.cells #[a', b', c', d', e'] t (0, 0)) :=
  heap_setCell_same _ _ _ _ _ _ (heap_setCell_same _ _ _ _ _ _ (heap_setCell_same _ _ _ _ _ _ (heap_setCell_same _ _ _ _ _ _ (heap_setCell_same _ _ _ _ _ _ h))))
theorem below_put5 {B : Nat} {a w : World} (h : Below B a w) {g : Nat} (hp : B ≤ g) (x y z u v : Value) : Below B a (put5 w g x y z u v) :=
  ((((h.setCell (p := ⟨g, 0, none⟩) hp x).setCell (p := ⟨g, 1, none⟩) hp y).setCell (p := ⟨g, 2, none⟩) hp z).setCell (p := ⟨g, 3, none⟩) hp u).setCell (p := ⟨g, 4, none⟩) hp v
theorem owns_put5 {w : World} {base n m g : Nat} {e t : TypeId} {v : Value} {xs : List Value} {a b c d f : Value} (h : w.ownsRow base e n v m xs) (hg : w.heap[g]? = some (.cells #[a, b, c, d, f] t (0, 0))) (ht : t ≠ e) (x y z u q : Value) : (put5 w g x y z u q).ownsRow base e n v m xs := by
  have h0 := heap_setCell_same _ _ 0 _ _ x hg
  have h1 := heap_setCell_same _ _ 1 _ _ y h0
  have h2 := heap_setCell_same _ _ 2 _ _ z h1
  have h3 := heap_setCell_same _ _ 3 _ _ u h2
  exact owns_set (owns_set (owns_set (owns_set (owns_set h hg ht) h0 ht) h1 ht) h2 ht) h3 ht
set_option maxRecDepth 100000 in
set_option maxHeartbeats 8000000 in
theorem readTxn_any (g : Nat) (st : Option (List Nat)) (w : World) (h : Rd w g st) :
    Calls Tryd.prog 41 #[.pointer (some ⟨g, 0, none⟩)] w fun e w' => (∃ v1 v2, e = .returned (txnv (readTv st).id (readTv st).plain v1 v2) ∧ w'.ownsRow w.heap.size 79 2 v1 (readTv st).l1.length ((readTv st).l1.flatMap Rdv.cells) ∧ w'.ownsRow w.heap.size 80 3 v2 (readTv st).l2.length ((readTv st).l2.flatMap Wrv.cells)) ∧ Rd w' g (endTv st) ∧ Only g w w' := by
  have HG : Hid (g < w.heap.size) := h.lt
  obtain ⟨XA, hXA⟩ : ∃ XA, XA = rdId st := ⟨_, rfl⟩
  obtain ⟨XB, hXB⟩ : ∃ XB, XB = Oct.atMost 1 XA.2 := ⟨_, rfl⟩
  obtain ⟨XC, hXC⟩ : ∃ XC, XC = Oct.atMostI 8 XB.2 := ⟨_, rfl⟩
  obtain ⟨XE, hXE⟩ : ∃ XE, XE = Oct.atMostI 8 (rdRs XC.1 XC.2).2 := ⟨_, rfl⟩
  have hT : readTv st = ⟨XA.1, (XB.1 : Int) == 1, (rdRs XC.1 XC.2).1, (rdWs XE.1 XE.2).1⟩ := by rw [hXE, hXC, hXB, hXA]; rfl
  have hU : endTv st = (rdWs XE.1 XE.2).2 := by rw [hXE, hXC, hXB, hXA]; rfl
  obtain ⟨pl, hpl⟩ : ∃ pl, pl = ((XB.1 : Int) == 1) := ⟨_, rfl⟩
  rw [← hpl] at hT
  have HPL : Hid (pl = ((XB.1 : Int) == 1)) := hpl
  clear hpl
  rw [hT, hU]
  clear hT hU
  have hb0 : Below w.heap.size w (w.alloc (.cells #[.int .i64 0, .int .u64 0, .bool false, .slice none 0 0, .slice none 0 0] 35)) := (Below.refl _ _).alloc (Nat.le_refl _) _
  have hn0 := heap_alloc_new w (.cells #[.int .i64 0, .int .u64 0, .bool false, .slice none 0 0, .slice none 0 0] 35)
  have hd0 := h.later hb0
  have hcall := readID_any g st _ hd0
  rw [← hXA] at hcall
  have hbA : ∀ l, XA.2 = some l → ∀ x ∈ l, x < 256 → True := fun _ _ _ _ _ => trivial
  clear hbA
  go_enter Tryd.func41, Tryd.ntmps41
  go_wp2_with fail
  generalize w.alloc (.cells #[.int .i64 0, .int .u64 0, .bool false, .slice none 0 0, .slice none 0 0] 35) = w0 at *
  refine hcall.mono ?_
  clear hcall
  rintro e w1 ⟨rfl, hd1, ho1⟩
  have HO1 : Hid (Only g w w1) := ((Only.refl g w).then hb0).trans ho1
  have HN1 : Hid (w1.heap[w.heap.size]? = some (.cells #[.int .i64 0, .int .u64 0, .bool false, .slice none 0 0, .slice none 0 0] 35)) := (ho1.fr hd0.tag).cells hn0 (by decide)
  have HD1 : Hid (Rd w1 g XA.2) := hd1
  have hcall := flag_any g XA.2 w1 hd1
  rw [← hXB] at hcall
  clear hd1 ho1 hb0 hn0 hd0 h hXA
  obtain ⟨⟨i1, i2⟩, sA⟩ := XA
  simp only at hcall hXB HD1 ⊢
  rw [← HPL.out] at hcall
  go_wp2_with fail
  refine hcall.mono ?_
  clear hcall hXB
  rintro e w2 ⟨rfl, hd2, ho2⟩
  obtain ⟨xb, sB⟩ := XB
  simp only at hd2 hXC
  have hn2 : w2.heap[w.heap.size]? = some (.cells #[.int .i64 0, .int .u64 0, .bool false, .slice none 0 0, .slice none 0 0] 35) := (ho2.fr HD1.out.tag).cells HN1.out (by decide)
  have hb3 : Below w2.heap.size w2 (w2.alloc (.cells #[.int .i64 i1, .int .u64 i2, .bool pl, .slice none 0 0, .slice none 0 0] 35)) := (Below.refl _ _).alloc (Nat.le_refl _) _
  have ho2' : Only g w w2 := HO1.out.trans ho2
  have hlt := (Array.getElem?_eq_some_iff.1 hn2).1
  have hrr : Rq w (w2.alloc (.cells #[.int .i64 i1, .int .u64 i2, .bool pl, .slice none 0 0, .slice none 0 0] 35)) g w2.heap.size sB (i1, i2) pl (.slice none 0 0) [] (.slice none 0 0) [] :=
    ⟨hd2.later hb3, ho2'.then (hb3.mono ho2'.size), HG.out, hlt, keepc hb3 hn2, heap_alloc_new _ _, World.ownsRow_nil _ _ _ _, World.ownsRow_nil _ _ _ _⟩
  go_upto_region 2 with fail
  generalize w2.alloc (.cells #[.int .i64 i1, .int .u64 i2, .bool pl, .slice none 0 0, .slice none 0 0] 35) = w3 at *
  generalize w2.heap.size = p at *
  have HX3 : Hid (Rq w w3 g p sB (i1, i2) pl (.slice none 0 0) [] (.slice none 0 0) []) := hrr
  have hcall := int_any g 8 sB w3 hrr.rd (by decide)
  rw [← hXC] at hcall
  have hn8 : XC.1 ≤ 8 := by rw [hXC]; exact (Oct.atMost_lt 8 sB hrr.rd.bytes).1
  clear hrr hlt ho2' hb3 hn2 ho2 hd2 HN1 HD1 HO1 hXC
  obtain ⟨n, sC⟩ := XC
  simp only at hcall hn8 hXE ⊢
  go_wp2_with fail
  refine hcall.mono ?_
  clear hcall
  rintro e w4 ⟨rfl, hd4, ho4⟩
  have HX4 : Hid (Rq w w4 g p sC (i1, i2) pl (.slice none 0 0) [] (.slice none 0 0) []) := HX3.out.call hd4 ho4
  clear hd4 ho4 HX3
  go_wp2
  go_loopw [14] (fun i wr => ∃ k : Nat, k ≤ n ∧ i = .int .i64 (k : Nat) ∧ Hid (∃ a m c, Rq w wr g p (rdRs k sC).2 (i1, i2) pl (.slice a m c) (rdRs k sC).1 (.slice none 0 0) [])) (fun i _ => n - (intOf i).toNat)
  case atStart => exact ⟨0, Nat.zero_le _, rfl, none, 0, 0, HX4.out⟩
  case round =>
    clear HX4
    obtain ⟨k, hk, rfl, HP⟩ := hrel
    obtain ⟨a, m, c, hp⟩ := HP.out
    clear HP
    by_cases hlt : k < n
    · have HS : Hid (rdRs (k + 1) sC = ((rdRs k sC).1 ++ [(rdR (rdRs k sC).2).1], (rdR (rdRs k sC).2).2)) := rfl
      have hl8 : (rdRs k sC).1.length ≤ 8 := by rw [rdRs_length]; omega
      generalize rdRs k sC = ML at *
      obtain ⟨l, sk⟩ := ML
      simp only at hp HS hl8
      have HX : Hid (Rq w wr g p sk (i1, i2) pl (.slice a m c) l (.slice none 0 0) []) := hp
      have hcall := rtext_any g 32 sk wr hp.rd (by decide)
      clear hp
      obtain ⟨X1, hX1⟩ : ∃ X1, X1 = Oct.textS 32 sk := ⟨_, rfl⟩
      have hR : rdR sk = (⟨str X1.1, (Oct.atMost 18446744073709551615 X1.2).1⟩, (Oct.atMost 18446744073709551615 X1.2).2) := by rw [hX1]; rfl
      rw [Hid, hR] at HS
      have HS2 : Hid _ := HS
      clear HS hR
      rw [← hX1] at hcall
      clear hX1
      obtain ⟨ts, s1⟩ := X1
      simp only at hcall HS2
      go_wp2_with fail
      refine hcall.mono ?_
      clear hcall
      rintro e w5 ⟨rfl, hd5, ho5⟩
      have HX5 : Hid (Rq w w5 g p s1 (i1, i2) pl (.slice a m c) l (.slice none 0 0) []) := HX.out.call hd5 ho5
      clear hd5 ho5 HX
      go_upto_region 5 with fail
      have HX := (show Hid (Rq w w5.drew g p s1 (i1, i2) pl (.slice a m c) l (.slice none 0 0) []) from HX5.out.later (Below.refl _ _).drew)
      have hc2 : w5.drew.cell? ⟨p, 3, none⟩ = some (.slice a m c) := cell_of_heap HX.out.box rfl
      refine wp_region_noPanic ?_
      refine wp_region_letz 9 (fun w' => w'.cell? ⟨p, 3, none⟩ = some (.slice a m c)) (by kernel_rfl) ?_ (fun hHeld => ?_)
      · exact hc2
      refine letz_take (i := 0) (d := 18) (v := ?_) rfl rfl (by kernel_rfl) (by kernel_rfl) (by kernel_rfl) (by kernel_rfl) (fun _ _ _ h => h) (Or.inl ⟨by rfl, ?_⟩) hHeld ?_
      rotate_left
      · (intro w hSw; (try dsimp only at hSw); go_simp; all_goals (with_reducible rfl))
      try simp only [Act.put, List.setIfInBounds_toArray, List.set_cons_zero, List.set_cons_succ]
      refine letz_take (i := 1) (d := 19) (v := ?_) rfl rfl (by kernel_rfl) (by kernel_rfl) (by kernel_rfl) (by kernel_rfl) (fun _ _ _ h => h) (Or.inl ⟨by rfl, ?_⟩) hHeld ?_
      rotate_left
      · (intro w hSw; (try dsimp only at hSw); go_simp; all_goals (with_reducible rfl))
      try simp only [Act.put, List.setIfInBounds_toArray, List.set_cons_zero, List.set_cons_succ]
      refine letz_take (i := 2) (d := 20) (v := ?_) rfl rfl (by kernel_rfl) (by kernel_rfl) (by kernel_rfl) (by kernel_rfl) (fun _ _ _ h => h) (Or.inl ⟨by rfl, ?_⟩) hHeld ?_
      rotate_left
      · (intro w hSw; (try dsimp only at hSw); go_simp; all_goals (with_reducible rfl))
      try simp only [Act.put, List.setIfInBounds_toArray, List.set_cons_zero, List.set_cons_succ]
      refine letz_take (i := 3) (d := 21) (v := ?_) rfl rfl (by kernel_rfl) (by kernel_rfl) (by kernel_rfl) (by kernel_rfl) (fun _ _ _ h => h) (Or.inl ⟨by rfl, ?_⟩) hHeld ?_
      rotate_left
      · (intro w hSw; (try dsimp only at hSw); go_simp; all_goals (with_reducible rfl))
      try simp only [Act.put, List.setIfInBounds_toArray, List.set_cons_zero, List.set_cons_succ]
      clear HX5 hc2
      generalize w5.drew = wD at *
      refine letz_one (i := 4) (by kernel_rfl) rfl (fun K hK => ?_)
      go_simp
      refine (n_any g s1 wD HX.out.rd).mono ?_
      rintro e w7 ⟨rfl, hd7, ho7⟩
      obtain ⟨X2, hX2⟩ : ∃ X2, X2 = Oct.atMost 18446744073709551615 s1 := ⟨_, rfl⟩
      rw [← hX2] at hd7 ⊢
      rw [← hX2] at HS2
      clear hX2
      obtain ⟨x2, s2⟩ := X2
      simp only at hd7 HS2 ⊢
      have HX7 : Hid (Rq w w7 g p s2 (i1, i2) pl (.slice a m c) l (.slice none 0 0) []) := HX.out.call hd7 ho7
      clear hd7 ho7 HX
      go_wp2_with fail
      refine hK.out _ _ ?_ (fun hHeld => ?_)
      · exact fun _ => cell_of_heap HX7.out.box rfl
      replace hHeld := hHeld (by kernel_rfl)
      clear hK K
      try simp only [Act.put, List.setIfInBounds_toArray, List.set_cons_zero, List.set_cons_succ]
      refine letz_take (i := 5) (d := 23) (v := ?_) rfl rfl (by kernel_rfl) (by kernel_rfl) (by kernel_rfl) (by kernel_rfl) (fun _ _ _ h => h) (Or.inl ⟨by rfl, ?_⟩) hHeld ?_
      rotate_left
      · (intro w hSw; (try dsimp only at hSw); go_simp; all_goals (with_reducible rfl))
      try simp only [Act.put, List.setIfInBounds_toArray, List.set_cons_zero, List.set_cons_succ]
      refine letz_one (i := 6) (by kernel_rfl) rfl (fun K hK => ?_)
      go_simp
      have ha : Below w7.heap.size w7 (w7.alloc (.cells #[.string (str ts), .int .u64 (x2 : Nat)] 79)) := (Below.refl _ _).alloc (Nat.le_refl _) _
      have hc := heap_alloc_new w7 (.cells #[.string (str ts), .int .u64 (x2 : Nat)] 79)
      have HX8 : Hid (Rq w (w7.alloc (.cells #[.string (str ts), .int .u64 (x2 : Nat)] 79)) g p s2 (i1, i2) pl (.slice a m c) l (.slice none 0 0) []) := HX7.out.later ha
      have hc3 := news_one Rdv.cells ⟨str ts, (x2 : Nat)⟩ hc rfl
      refine hK.out _ _ ?_ (fun hHeld => ?_)
      · exact fun _ => cell_of_heap HX8.out.box rfl
      replace hHeld := hHeld (by kernel_rfl)
      clear hK K
      try simp only [Act.put, List.setIfInBounds_toArray, List.set_cons_zero, List.set_cons_succ]
      generalize w7.heap.size = pg at *
      generalize (w7.alloc (.cells #[.string (str ts), .int .u64 (x2 : Nat)] 79)) = w8 at *
      clear ha hc HX7
      refine letz_one (i := 7) (by kernel_rfl) rfl (fun K hK => ?_)
      refine step_append_els Rdv.cells 2 24 32 79 _ Tryd.underlying32 Tryd.info_79 rfl (by decide) (fun _ => rfl) (by decide) (by rfl) _ _ (by rfl) w.heap.size _ l (by rfl) HX8.out.o1 ⟨pg, 0, none⟩ 1 1 [(⟨str ts, (x2 : Nat)⟩ : Rdv)] (by rfl) rfl hc3 (Rdv.one _) (by decide) (by omega) HX8.out.size ?_
      intro vv w9 ho hg9 _
      obtain ⟨a2, n2, c2, rfl⟩ := owns_slice ho
      have hf9 : Fr w.heap.size [79] _ w9 := Fr.grown hg9 (fun k hk => ⟨(World.ownsRow.lt HX8.out.o1 k hk).1, 79, by simp, owns_tag HX8.out.o1 k hk⟩)
      have HQ := (show Hid _ from HX8.out.grew1 hf9 ho)
      have HO9 := (show Hid _ from ho)
      show K (Act.put _ (some 25) (.slice a2 n2 c2)) w9
      refine hK.out _ _ ?_ (fun hHeld => ?_)
      · exact fun _ => cell_of_heap HQ.out.2.2.2.1 rfl
      replace hHeld := hHeld (by kernel_rfl)
      clear hK K
      try simp only [Act.put, List.setIfInBounds_toArray, List.set_cons_zero, List.set_cons_succ]
      clear ho hg9 hf9 hc3
      refine letz_take (i := 8) (d := 26) (v := ?_) rfl rfl (by kernel_rfl) (by kernel_rfl) (by kernel_rfl) (by kernel_rfl) (fun _ _ _ h => h) (Or.inl ⟨by rfl, ?_⟩) hHeld ?_
      rotate_left
      · (intro w hSw; (try dsimp only at hSw); go_simp; all_goals (with_reducible rfl))
      try simp only [Act.put, List.setIfInBounds_toArray, List.set_cons_zero, List.set_cons_succ]
      have e2 : w9.cell? ⟨p, 3, none⟩ = some (.slice a m c) := cell_of_heap HQ.out.2.2.2.1 rfl
      have f2 : w9.frozen? ⟨p, 3, none⟩ = false := frozen_of_row _ _ _ _ _ HQ.out.2.2.2.1
      have HXE : Hid (Rq w (w9.setCell ⟨p, 3, none⟩ (.slice a2 n2 c2)) g p s2 (i1, i2) pl (.slice a2 n2 c2) (l ++ [(⟨str ts, (x2 : Nat)⟩ : Rdv)]) (.slice none 0 0) []) := Rq.put1 HG.out HX8.out.plt HQ.out HO9.out
      clear HX8 HQ HO9
      refine letz_one (i := 9) (by kernel_rfl) rfl (fun K hK => ?_)
      go_simp
      refine hK.out _ _ ?_ (fun hHeld => ?_)
      · exact fun h => absurd h (by decide)
      clear hHeld
      clear hK K
      try simp only [Act.put, List.setIfInBounds_toArray, List.set_cons_zero, List.set_cons_succ]
      refine letz_done (by kernel_rfl) ?_ _
      refine NoPanic.normal ?_
      go_wp2
      go_roundw
      case rel => exact ⟨k + 1, by omega, by go_num, a2, n2, c2, by rw [HS2.out]; exact HXE.out⟩
      case measure => simp [intOf]; omega
    · obtain rfl : k = n := by omega
      obtain ⟨LR, hLR⟩ : ∃ LR, LR = rdRs k sC := ⟨_, rfl⟩
      rw [← hLR] at hp hXE
      have hl8 : LR.1.length ≤ 8 := by rw [hLR, rdRs_length]; omega
      have HLR : Hid (LR = rdRs k sC) := hLR
      clear hLR
      obtain ⟨l1, sD⟩ := LR
      simp only at hp hXE hl8
      have HX : Hid (Rq w wr g p sD (i1, i2) pl (.slice a m c) l1 (.slice none 0 0) []) := hp
      have hcall := int_any g 8 sD wr hp.rd (by decide)
      rw [← hXE] at hcall
      have hn9 : XE.1 ≤ 8 := by rw [hXE]; exact (Oct.atMost_lt 8 sD hp.rd.bytes).1
      clear hp hXE
      obtain ⟨n3, sE⟩ := XE
      simp only at hcall hn9
      go_wp2_with fail
      refine hcall.mono ?_
      clear hcall
      rintro e w5 ⟨rfl, hd5, ho5⟩
      have HX5 : Hid (Rq w w5 g p sE (i1, i2) pl (.slice a m c) l1 (.slice none 0 0) []) := HX.out.call hd5 ho5
      clear hd5 ho5 HX
      go_wp2
      go_loopw [30] (fun i wr => ∃ j : Nat, j ≤ n3 ∧ i = .int .i64 (j : Nat) ∧ Hid (∃ a2 m2 c2, Rq w wr g p (rdWs j sE).2 (i1, i2) pl (.slice a m c) l1 (.slice a2 m2 c2) (rdWs j sE).1)) (fun i _ => n3 - (intOf i).toNat)
      case atStart => exact ⟨0, Nat.zero_le _, rfl, none, 0, 0, HX5.out⟩
      case round =>
        clear HX5
        obtain ⟨j, hj, rfl, HP⟩ := hrel
        obtain ⟨qa, qm, qc, hp⟩ := HP.out
        clear HP
        by_cases hlt2 : j < n3
        · have HS : Hid (rdWs (j + 1) sE = ((rdWs j sE).1 ++ [(rdW (rdWs j sE).2).1], (rdW (rdWs j sE).2).2)) := rfl
          have hl9 : (rdWs j sE).1.length ≤ 8 := by rw [rdWs_length]; omega
          generalize rdWs j sE = ML at *
          obtain ⟨l, sk⟩ := ML
          simp only at hp HS hl9
          have HX : Hid (Rq w wr g p sk (i1, i2) pl (.slice a m c) l1 (.slice qa qm qc) l) := hp
          have hcall := rtext_any g 32 sk wr hp.rd (by decide)
          clear hp
          obtain ⟨X1, hX1⟩ : ∃ X1, X1 = Oct.textS 32 sk := ⟨_, rfl⟩
          have hR : rdW sk = (⟨str X1.1, str (Oct.textS 64 X1.2).1, ((Oct.atMost 1 (Oct.textS 64 X1.2).2).1 : Int) == 1⟩, (Oct.atMost 1 (Oct.textS 64 X1.2).2).2) := by rw [hX1]; rfl
          rw [Hid, hR] at HS
          have HS2 : Hid _ := HS
          clear HS hR
          rw [← hX1] at hcall
          clear hX1
          obtain ⟨ts, s1⟩ := X1
          simp only at hcall HS2
          go_wp2_with fail
          refine hcall.mono ?_
          clear hcall
          rintro e w5 ⟨rfl, hd5, ho5⟩
          have HX5 : Hid (Rq w w5 g p s1 (i1, i2) pl (.slice a m c) l1 (.slice qa qm qc) l) := HX.out.call hd5 ho5
          have hcall := rtext_any g 64 s1 w5 hd5 (by decide)
          clear hd5 ho5 HX
          obtain ⟨X3, hX3⟩ : ∃ X3, X3 = Oct.textS 64 s1 := ⟨_, rfl⟩
          rw [← hX3] at hcall HS2
          clear hX3
          obtain ⟨us, s3⟩ := X3
          simp only at hcall HS2
          go_wp2_with fail
          refine hcall.mono ?_
          clear hcall
          rintro e w6 ⟨rfl, hd6, ho6⟩
          have HX6 : Hid (Rq w w6 g p s3 (i1, i2) pl (.slice a m c) l1 (.slice qa qm qc) l) := HX5.out.call hd6 ho6
          clear hd6 ho6 HX5
          go_upto_region 10 with fail
          have HX := (show Hid (Rq w w6.drew g p s3 (i1, i2) pl (.slice a m c) l1 (.slice qa qm qc) l) from HX6.out.later (Below.refl _ _).drew)
          have hc2 : w6.drew.cell? ⟨p, 4, none⟩ = some (.slice qa qm qc) := cell_of_heap HX.out.box rfl
          refine wp_region_noPanic ?_
          refine wp_region_letz 10 (fun w' => w'.cell? ⟨p, 4, none⟩ = some (.slice qa qm qc)) (by kernel_rfl) ?_ (fun hHeld => ?_)
          · exact hc2
          refine letz_take (i := 0) (d := 36) (v := ?_) rfl rfl (by kernel_rfl) (by kernel_rfl) (by kernel_rfl) (by kernel_rfl) (fun _ _ _ h => h) (Or.inl ⟨by rfl, ?_⟩) hHeld ?_
          rotate_left
          · (intro w hSw; (try dsimp only at hSw); go_simp; all_goals (with_reducible rfl))
          try simp only [Act.put, List.setIfInBounds_toArray, List.set_cons_zero, List.set_cons_succ]
          refine letz_take (i := 1) (d := 37) (v := ?_) rfl rfl (by kernel_rfl) (by kernel_rfl) (by kernel_rfl) (by kernel_rfl) (fun _ _ _ h => h) (Or.inl ⟨by rfl, ?_⟩) hHeld ?_
          rotate_left
          · (intro w hSw; (try dsimp only at hSw); go_simp; all_goals (with_reducible rfl))
          try simp only [Act.put, List.setIfInBounds_toArray, List.set_cons_zero, List.set_cons_succ]
          refine letz_take (i := 2) (d := 38) (v := ?_) rfl rfl (by kernel_rfl) (by kernel_rfl) (by kernel_rfl) (by kernel_rfl) (fun _ _ _ h => h) (Or.inl ⟨by rfl, ?_⟩) hHeld ?_
          rotate_left
          · (intro w hSw; (try dsimp only at hSw); go_simp; all_goals (with_reducible rfl))
          try simp only [Act.put, List.setIfInBounds_toArray, List.set_cons_zero, List.set_cons_succ]
          refine letz_take (i := 3) (d := 39) (v := ?_) rfl rfl (by kernel_rfl) (by kernel_rfl) (by kernel_rfl) (by kernel_rfl) (fun _ _ _ h => h) (Or.inl ⟨by rfl, ?_⟩) hHeld ?_
          rotate_left
          · (intro w hSw; (try dsimp only at hSw); go_simp; all_goals (with_reducible rfl))
          try simp only [Act.put, List.setIfInBounds_toArray, List.set_cons_zero, List.set_cons_succ]
          refine letz_take (i := 4) (d := 40) (v := ?_) rfl rfl (by kernel_rfl) (by kernel_rfl) (by kernel_rfl) (by kernel_rfl) (fun _ _ _ h => h) (Or.inl ⟨by rfl, ?_⟩) hHeld ?_
          rotate_left
          · (intro w hSw; (try dsimp only at hSw); go_simp; all_goals (with_reducible rfl))
          try simp only [Act.put, List.setIfInBounds_toArray, List.set_cons_zero, List.set_cons_succ]
          clear HX6 hc2
          generalize w6.drew = wD at *
          refine letz_one (i := 5) (by kernel_rfl) rfl (fun K hK => ?_)
          go_simp
          refine (flag_any g s3 wD HX.out.rd).mono ?_
          rintro e w7 ⟨rfl, hd7, ho7⟩
          obtain ⟨X2, hX2⟩ : ∃ X2, X2 = Oct.atMost 1 s3 := ⟨_, rfl⟩
          rw [← hX2] at hd7 ⊢
          rw [← hX2] at HS2
          clear hX2
          obtain ⟨x2, s2⟩ := X2
          simp only at hd7 HS2 ⊢
          obtain ⟨fl, hfl⟩ : ∃ fl, fl = ((x2 : Int) == 1) := ⟨_, rfl⟩
          rw [← hfl] at HS2 ⊢
          clear hfl
          have HX7 : Hid (Rq w w7 g p s2 (i1, i2) pl (.slice a m c) l1 (.slice qa qm qc) l) := HX.out.call hd7 ho7
          clear hd7 ho7 HX
          go_wp2_with fail
          refine hK.out _ _ ?_ (fun hHeld => ?_)
          · exact fun _ => cell_of_heap HX7.out.box rfl
          replace hHeld := hHeld (by kernel_rfl)
          clear hK K
          try simp only [Act.put, List.setIfInBounds_toArray, List.set_cons_zero, List.set_cons_succ]
          refine letz_take (i := 6) (d := 42) (v := ?_) rfl rfl (by kernel_rfl) (by kernel_rfl) (by kernel_rfl) (by kernel_rfl) (fun _ _ _ h => h) (Or.inl ⟨by rfl, ?_⟩) hHeld ?_
          rotate_left
          · (intro w hSw; (try dsimp only at hSw); go_simp; all_goals (with_reducible rfl))
          try simp only [Act.put, List.setIfInBounds_toArray, List.set_cons_zero, List.set_cons_succ]
          refine letz_one (i := 7) (by kernel_rfl) rfl (fun K hK => ?_)
          go_simp
          have ha : Below w7.heap.size w7 (w7.alloc (.cells #[.string (str ts), .string (str us), .bool fl] 80)) := (Below.refl _ _).alloc (Nat.le_refl _) _
          have hc := heap_alloc_new w7 (.cells #[.string (str ts), .string (str us), .bool fl] 80)
          have HX8 : Hid (Rq w (w7.alloc (.cells #[.string (str ts), .string (str us), .bool fl] 80)) g p s2 (i1, i2) pl (.slice a m c) l1 (.slice qa qm qc) l) := HX7.out.later ha
          have hc3 := news_one Wrv.cells ⟨str ts, str us, fl⟩ hc rfl
          refine hK.out _ _ ?_ (fun hHeld => ?_)
          · exact fun _ => cell_of_heap HX8.out.box rfl
          replace hHeld := hHeld (by kernel_rfl)
          clear hK K
          try simp only [Act.put, List.setIfInBounds_toArray, List.set_cons_zero, List.set_cons_succ]
          generalize w7.heap.size = pg at *
          generalize (w7.alloc (.cells #[.string (str ts), .string (str us), .bool fl] 80)) = w8 at *
          clear ha hc HX7
          refine letz_one (i := 8) (by kernel_rfl) rfl (fun K hK => ?_)
          refine step_append_els Wrv.cells 3 40 33 80 _ Tryd.underlying33 Tryd.info_80 rfl (by decide) (fun _ => rfl) (by decide) (by rfl) _ _ (by rfl) w.heap.size _ l (by rfl) HX8.out.o2 ⟨pg, 0, none⟩ 1 1 [(⟨str ts, str us, fl⟩ : Wrv)] (by rfl) rfl hc3 (Wrv.one _) (by decide) (by omega) HX8.out.size ?_
          intro vv w9 ho hg9 _
          obtain ⟨a2, n2, c2, rfl⟩ := owns_slice ho
          have hf9 : Fr w.heap.size [80] _ w9 := Fr.grown hg9 (fun k hk => ⟨(World.ownsRow.lt HX8.out.o2 k hk).1, 80, by simp, owns_tag HX8.out.o2 k hk⟩)
          have HQ := (show Hid _ from HX8.out.grew2 hf9 ho)
          have HO9 := (show Hid _ from ho)
          show K (Act.put _ (some 44) (.slice a2 n2 c2)) w9
          refine hK.out _ _ ?_ (fun hHeld => ?_)
          · exact fun _ => cell_of_heap HQ.out.2.2.2.1 rfl
          replace hHeld := hHeld (by kernel_rfl)
          clear hK K
          try simp only [Act.put, List.setIfInBounds_toArray, List.set_cons_zero, List.set_cons_succ]
          clear ho hg9 hf9 hc3
          refine letz_take (i := 9) (d := 45) (v := ?_) rfl rfl (by kernel_rfl) (by kernel_rfl) (by kernel_rfl) (by kernel_rfl) (fun _ _ _ h => h) (Or.inl ⟨by rfl, ?_⟩) hHeld ?_
          rotate_left
          · (intro w hSw; (try dsimp only at hSw); go_simp; all_goals (with_reducible rfl))
          try simp only [Act.put, List.setIfInBounds_toArray, List.set_cons_zero, List.set_cons_succ]
          have e2 : w9.cell? ⟨p, 4, none⟩ = some (.slice qa qm qc) := cell_of_heap HQ.out.2.2.2.1 rfl
          have f2 : w9.frozen? ⟨p, 4, none⟩ = false := frozen_of_row _ _ _ _ _ HQ.out.2.2.2.1
          have HXE : Hid (Rq w (w9.setCell ⟨p, 4, none⟩ (.slice a2 n2 c2)) g p s2 (i1, i2) pl (.slice a m c) l1 (.slice a2 n2 c2) (l ++ [(⟨str ts, str us, fl⟩ : Wrv)])) := Rq.put2 HG.out HX8.out.plt HQ.out HO9.out
          clear HX8 HQ HO9
          refine letz_one (i := 10) (by kernel_rfl) rfl (fun K hK => ?_)
          go_simp
          refine hK.out _ _ ?_ (fun hHeld => ?_)
          · exact fun h => absurd h (by decide)
          clear hHeld
          clear hK K
          try simp only [Act.put, List.setIfInBounds_toArray, List.set_cons_zero, List.set_cons_succ]
          refine letz_done (by kernel_rfl) ?_ _
          refine NoPanic.normal ?_
          go_wp2
          go_roundw
          case rel => exact ⟨j + 1, by omega, by go_num, a2, n2, c2, by rw [HS2.out]; exact HXE.out⟩
          case measure => simp [intOf]; omega
        · obtain rfl : j = n3 := by omega
          have HX : Hid (Rq w wr g p (rdWs j sE).2 (i1, i2) pl (.slice a m c) l1 (.slice qa qm qc) (rdWs j sE).1) := hp
          clear hp
          obtain ⟨b0, b1, b2, b3, b4⟩ := five_cells HX.out.box
          obtain ⟨z0, z1, z2, z3, z4⟩ := five_cells HX.out.zero
          have hfz : ∀ o, wr.frozen? ⟨w.heap.size, o, none⟩ = false := fun o => frozen_of_row _ _ _ _ _ HX.out.zero
          have f0 := hfz 0
          have f1 := hfz 1
          have f2 := hfz 2
          have f3 := hfz 3
          have f4 := hfz 4
          have HPUT : Hid ((put5 wr w.heap.size (.int .i64 i1) (.int .u64 i2) (.bool pl) (.slice a m c) (.slice qa qm qc)).heap[w.heap.size]? = some (.cells #[.int .i64 i1, .int .u64 i2, .bool pl, .slice a m c, .slice qa qm qc] 35)) := five_put HX.out.zero
          have hbl : Below w.heap.size wr (put5 wr w.heap.size (.int .i64 i1) (.int .u64 i2) (.bool pl) (.slice a m c) (.slice qa qm qc)) := below_put5 (Below.refl _ _) (Nat.le_refl _) _ _ _ _ _
          have HE : Hid (Rd (put5 wr w.heap.size (.int .i64 i1) (.int .u64 i2) (.bool pl) (.slice a m c) (.slice qa qm qc)) g (rdWs j sE).2 ∧ Only g w (put5 wr w.heap.size (.int .i64 i1) (.int .u64 i2) (.bool pl) (.slice a m c) (.slice qa qm qc)) ∧ (put5 wr w.heap.size (.int .i64 i1) (.int .u64 i2) (.bool pl) (.slice a m c) (.slice qa qm qc)).ownsRow w.heap.size 79 2 (.slice a m c) l1.length (l1.flatMap Rdv.cells) ∧ (put5 wr w.heap.size (.int .i64 i1) (.int .u64 i2) (.bool pl) (.slice a m c) (.slice qa qm qc)).ownsRow w.heap.size 80 3 (.slice qa qm qc) (rdWs j sE).1.length ((rdWs j sE).1.flatMap Wrv.cells)) := ⟨HX.out.rd.below hbl HG.out, HX.out.only.then hbl, owns_put5 HX.out.o1 HX.out.zero (by decide) _ _ _ _ _, owns_put5 HX.out.o2 HX.out.zero (by decide) _ _ _ _ _⟩
          obtain ⟨c0, c1, c2, c3, c4⟩ := five_cells HPUT.out
          clear hbl hfz HX HPUT
          go_wp2
          refine bodyPost_ret (v := .agg #[.int .i64 i1, .int .u64 i2, .bool pl, .slice a m c, .slice qa qm qc]) (by simp [results, Tryd.results41, go_sem, c0, c1, c2, c3, c4]) rfl ?_
          refine ⟨⟨_, _, rfl, ?_, HE.out.2.2.2⟩, HE.out.1, HE.out.2.1⟩
          rw [← HLR.out]
          exact HE.out.2.2.1
end Go.Proofs.YteokhedljfakkaaDoor
