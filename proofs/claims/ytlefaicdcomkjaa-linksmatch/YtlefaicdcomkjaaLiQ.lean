/- matched: a contract. -/
import Derived.Test.YtlefaicdcomkjaaLiP
import Derived.Test.YtlefaicdcomkjaaLiM
namespace Go.Proofs.Ytlefaicdcomkjaa
open Go Go.RowKit
set_option linter.unusedVariables false
set_option linter.unusedSimpArgs false

theorem owns_cap {w : World} {b e n m k c : Nat} {a : Option Addr} {xs : List Value} (h : w.ownsRow b e n (.slice a k c) m xs) : k ≤ c := by
  rcases h.2 with ⟨h0, h1⟩ | ⟨q, cap, cur, h0, h1, h2, h3⟩
  · simp only [Value.slice.injEq] at h0
    omega
  · simp only [Value.slice.injEq] at h0
    omega
theorem At.take {w : World} {a : Option Addr} {Q : List Ev} (h : At Ev.cells w a Q) (k : Nat) (hk : k ≤ Q.length) : At Ev.cells w a (Q.take k) := by
  refine ⟨fun e => by rw [h.1 e]; simp, fun ad e => ⟨(h.2 ad e).1, fun j u hu => (h.2 ad e).2 j u ?_⟩⟩
  rw [← flat_take Q k hk] at hu
  rw [List.getElem?_take] at hu
  split at hu
  · exact hu
  · cases hu
theorem core_take {Q : List Ev} {A : Lo} (h : Q.map core = (flatL A).map core) (k : Nat) : (Q.take k).map core = (flatL (A.take k)).map core := by
  rw [List.map_take, h]
  simp only [flatL, List.map_take]
theorem flat_small (A : Lo) (w : World) : ∀ e ∈ flatL A, e.mem w ∧ e.l1.length ≤ 10 ∧ e.l2.length ≤ 10 := by
  intro e he
  obtain ⟨a, _, rfl⟩ := List.mem_map.1 he
  exact ⟨flat_mem a w, by simp [flatE], by simp [flatE]⟩
theorem core_len {Q : List Ev} {A : Lo} (h : Q.map core = (flatL A).map core) : Q.length = A.length := by
  have := congrArg List.length h
  simpa [flatL] using this
set_option maxRecDepth 100000 in
set_option maxHeartbeats 8000000 in
theorem matched_any (g h : Nat) (ob ob2 : Option Nat) (A B : Lo) (w : World) (hA : Lg w g ob (flatL A)) (hB : Lg w h ob2 (flatL B)) (hM : Mat A B) (h1 : A.length ≤ 1000) (h2 : B.length ≤ 1000) :
    Calls Try.prog 29 #[.pointer (some ⟨g, 0, none⟩), .pointer (some ⟨h, 0, none⟩)] w fun e w' => e = .returned (.bool true) ∧ Below w.heap.size w w' := by
  have HB : Hid (Lg w h ob2 (flatL B)) := hB
  have HL : Hid (A.take (lastTo A B A.length) = B.take (lastTo A B A.length)) := lastTo_same hM A.length (Nat.le_refl _)
  have q1 := allE_any g ob (flatL A) w hA (by rw [flatL_length]; exact h1)
  clear hA hB hM
  go_enter Try.func29, Try.ntmps29
  go_wp2_with fail
  refine q1.mono ?_
  clear q1
  rintro e w1 ⟨P, v, rfl, hp, hrel, -, hb1⟩
  obtain rfl := hrel.flat
  clear hrel
  obtain ⟨a1, n1, c1, rfl⟩ := owns_slice hp
  have e1 : n1 = (flatL A).length := owns_len hp
  have q2 := plain_rows a1 n1 c1 (flatL A) w1 (At.of hp) e1 (by rw [flatL_length]; exact h1) (flat_small A w1)
  have HB1 : Hid (Below w.heap.size w w1) := hb1
  clear hp hb1 e1
  go_wp2_with fail
  refine q2.mono ?_
  clear q2
  rintro e w2 ⟨Q, v, rfl, hq, cq, mq, hb2⟩
  obtain ⟨xa, xn, xc, rfl⟩ := owns_slice hq
  have HB2 : Hid (Below w.heap.size w w2) := HB1.out.trans (hb2.mono HB1.out.size)
  have HQ2 : Hid (At Ev.cells w2 xa Q ∧ (∀ e ∈ Q, e.rmem w2) ∧ Q.map core = (flatL A).map core) := ⟨At.of hq, mq, cq⟩
  have hxn : xn = A.length := (owns_len hq).trans (core_len cq)
  have hxc : xn ≤ xc := owns_cap hq
  have HXN : Hid (xn = A.length) := hxn
  have q3 := allE_any h ob2 (flatL B) w2 (HB.out.later HB2.out) (by rw [flatL_length]; exact h2)
  clear hq cq mq hb2 HB1 hxn
  go_wp2_with fail
  refine q3.mono ?_
  clear q3
  rintro e w3 ⟨P, v, rfl, hp, hrel, -, hb3⟩
  obtain rfl := hrel.flat
  clear hrel
  obtain ⟨a2, n2, c2, rfl⟩ := owns_slice hp
  have e2 : n2 = (flatL B).length := owns_len hp
  have q4 := plain_rows a2 n2 c2 (flatL B) w3 (At.of hp) e2 (by rw [flatL_length]; exact h2) (flat_small B w3)
  have HB3 : Hid (Below w2.heap.size w2 w3) := hb3
  clear hp hb3 e2
  go_wp2_with fail
  refine q4.mono ?_
  clear q4
  rintro e w4 ⟨R, v, rfl, hr, cr, mr, hb4⟩
  obtain ⟨ya, yn, yc, rfl⟩ := owns_slice hr
  have HB24 : Hid (Below w2.heap.size w2 w4) := HB3.out.trans (hb4.mono HB3.out.size)
  have HB4 : Hid (Below w.heap.size w w4) := HB2.out.trans (HB24.out.mono HB2.out.size)
  have HQ4 : Hid (At Ev.cells w4 xa Q ∧ (∀ e ∈ Q, e.rmem w4) ∧ Q.map core = (flatL A).map core) := ⟨HQ2.out.1.later HB24.out, fun e he => (HQ2.out.2.1 e he).later HB24.out, HQ2.out.2.2⟩
  have HR4 : Hid (At Ev.cells w4 ya R ∧ (∀ e ∈ R, e.rmem w4) ∧ R.map core = (flatL B).map core) := ⟨At.of hr, mr, cr⟩
  have hyn : yn = B.length := (owns_len hr).trans (core_len cr)
  have hyc : yn ≤ yc := owns_cap hr
  have HYN : Hid (yn = B.length) := hyn
  have hx1000 : xn ≤ 1000 := by rw [HXN.out]; exact h1
  have hy1000 : yn ≤ 1000 := by rw [hyn]; exact h2
  clear hr cr mr hb4 HB3 HB24 HB2 HQ2 hyn h1 h2 HB
  go_wp2
  go_loopw [7, 17] (fun l i wr => ∃ k lv : Nat, k ≤ xn ∧ i = .int .i64 (k : Nat) ∧ l = .int .i64 (lv : Nat) ∧ Hid (lv = lastTo A B k) ∧ Hid (∃ q, wr = w4.drewN q)) (fun _ i _ => xn - (intOf i).toNat)
  case atStart => exact ⟨0, 0, Nat.zero_le _, rfl, rfl, rfl, 0, rfl⟩
  case round =>
    obtain ⟨k, lv, hk, rfl, rfl, HLV, HW⟩ := hrel
    obtain ⟨q, rfl⟩ := HW.out
    by_cases hlt : k < xn
    · have hkA : k < A.length := by rw [← HXN.out]; exact hlt
      have hx : A[k]? = some A[k] := List.getElem?_eq_getElem hkA
      generalize A[k] = x at hx
      have HX : Hid (A[k]? = some x) := hx
      obtain ⟨b, off, x1, y1, x2, y2, rfl, r1⟩ := HQ4.out.1.flat HQ4.out.2.1 HQ4.out.2.2 hx
      have d1 : w4.cell? ⟨b, off + k * 10, none⟩ = some (.int .u64 x.1) := r1.1
      clear r1 hx hkA
      have hk0 : (0 : Int) ≤ (k : Int) := by omega
      by_cases hlt2 : k < yn
      · have hkB : k < B.length := by rw [← HYN.out]; exact hlt2
        have hy : B[k]? = some B[k] := List.getElem?_eq_getElem hkB
        generalize B[k] = y at hy
        have HY : Hid (B[k]? = some y) := hy
        obtain ⟨b', off', z1, u1, z2, u2, rfl, r2⟩ := HR4.out.1.flat HR4.out.2.1 HR4.out.2.2 hy
        have d2 : w4.cell? ⟨b', off' + k * 10, none⟩ = some (.int .u64 y.1) := r2.1
        have HKB : Hid (k < B.length) := hkB
        clear r2 hy hkB
        obtain ⟨xe, xs⟩ := x
        obtain ⟨ye, ys⟩ := y
        simp only at d1 d2
        by_cases he : xe = ye
        · have hee : (xe == ye) = true := by simp [he]
          have HN : Hid (lastTo A B (k + 1) = k + 1) := by
            unfold Hid lastTo
            rw [if_pos ⟨HKB.out, by rw [HX.out, HY.out]; exact he⟩]
          clear he
          go_upto_region 6 with fail
          have hd : decide (((k : Nat) : Int) < (yn : Nat)) = true := by simp; omega
          go_quiet (fail)
          go_wp2
          go_roundw
          case rel => exact ⟨k + 1, k + 1, by omega, by go_num, by go_num, HN.out.symm, _, rfl⟩
          case measure => simp [intOf]; omega
        · have hee : (xe == ye) = false := by simp [he]
          have HN : Hid (lastTo A B (k + 1) = lastTo A B k) := by
            rw [Hid, lastTo]
            rw [if_neg (fun hc => he (by have := hc.2; rw [HX.out, HY.out] at this; exact this))]
          clear he
          go_upto_region 6 with fail
          have hd : decide (((k : Nat) : Int) < (yn : Nat)) = true := by simp; omega
          go_quiet (fail)
          go_wp2
          go_roundw
          case rel => exact ⟨k + 1, lv, by omega, by go_num, rfl, by rw [Hid, HN.out]; exact HLV.out, _, rfl⟩
          case measure => simp [intOf]; omega
      · have HN : Hid (lastTo A B (k + 1) = lastTo A B k) := by
          rw [Hid, lastTo]
          rw [if_neg (fun hc => hlt2 (by rw [HYN.out]; exact hc.1))]
        go_upto_region 6 with fail
        have hd : decide (((k : Nat) : Int) < (yn : Nat)) = false := by simp; omega
        go_quiet (fail)
        go_wp2
        go_roundw
        case rel => exact ⟨k + 1, lv, by omega, by go_num, rfl, by rw [Hid, HN.out]; exact HLV.out, _, rfl⟩
        case measure => simp [intOf]; omega
    · have hk2 : k = A.length := by rw [← HXN.out]; omega
      have HM : Hid (lv = lastTo A B A.length) := by rw [Hid, ← hk2]; exact HLV.out
      have m1 : lv ≤ xn := by rw [HM.out, HXN.out]; exact lastTo_le A B _
      have m2 : lv ≤ yn := by rw [HM.out, HYN.out]; exact lastTo_le2 A B _
      have HLM : Hid (A.take lv = B.take lv) := by rw [Hid, HM.out]; exact HL.out
      have i1 : lv ≤ xc := Nat.le_trans m1 hxc
      have i2 : lv ≤ yc := Nat.le_trans m2 hyc
      have i3 : ((lv : Nat) : Int) ≤ (xc : Nat) := by omega
      have i4 : ((lv : Nat) : Int) ≤ (yc : Nat) := by omega
      have lQ := core_len HQ4.out.2.2
      have lR := core_len HR4.out.2.2
      have hal := alike_any xa ya lv xc yc (A.take lv) (Q.take lv) (R.take lv) (w4.drewN q).drew
        (((HQ4.out.1.take lv (by rw [lQ, ← HXN.out]; exact m1)).later (below_drewN (Below.refl _ _) q)).later (Below.refl _ _).drew)
        (((HR4.out.1.take lv (by rw [lR, ← HYN.out]; exact m2)).later (below_drewN (Below.refl _ _) q)).later (Below.refl _ _).drew)
        (fun e he => ((HQ4.out.2.1 e (List.mem_of_mem_take he)).later (below_drewN (Below.refl _ _) q)).later (Below.refl _ _).drew)
        (fun e he => ((HR4.out.2.1 e (List.mem_of_mem_take he)).later (below_drewN (Below.refl _ _) q)).later (Below.refl _ _).drew)
        (core_take HQ4.out.2.2 lv) (by rw [core_take HR4.out.2.2 lv, HLM.out]) (by rw [List.length_take, ← HXN.out]; omega) (by omega)
      have HAL : Hid (Calls Try.prog 9 #[.slice xa lv xc, .slice ya lv yc] (w4.drewN q).drew fun e w' => e = .returned (.bool true) ∧ Below (w4.drewN q).drew.heap.size (w4.drewN q).drew w') := hal
      clear hal hk2 lQ lR
      go_upto_region 9 with fail
      refine wp_region_noPanic ?_
      refine wp_region_held_drew (S := (fun w' => True)) (by kernel_rfl) trivial (fun hHeld => ?_)
      refine held_take (i := 0) (d := 40) (v := ?_) rfl rfl (by kernel_rfl) (by kernel_rfl) (by kernel_rfl) (fun _ _ _ h => h) (Or.inl ⟨by rfl, ?_⟩) hHeld ?_
      rotate_left
      · (intro w hSw; go_simp; all_goals (with_reducible rfl))
      try simp only [Act.put, List.setIfInBounds_toArray, List.set_cons_zero, List.set_cons_succ]
      refine held_take (i := 1) (d := 41) (v := ?_) rfl rfl (by kernel_rfl) (by kernel_rfl) (by kernel_rfl) (fun _ _ _ h => h) (Or.inl ⟨by rfl, ?_⟩) hHeld ?_
      rotate_left
      · (intro w hSw; go_simp; all_goals (with_reducible rfl))
      try simp only [Act.put, List.setIfInBounds_toArray, List.set_cons_zero, List.set_cons_succ]
      refine held_take (i := 2) (d := 42) (v := ?_) rfl rfl (by kernel_rfl) (by kernel_rfl) (by kernel_rfl) (fun _ _ _ h => h) (Or.inl ⟨by rfl, ?_⟩) hHeld ?_
      rotate_left
      · (intro w hSw; go_simp; all_goals (with_reducible rfl))
      try simp only [Act.put, List.setIfInBounds_toArray, List.set_cons_zero, List.set_cons_succ]
      refine held_take (i := 3) (d := 43) (v := ?_) rfl rfl (by kernel_rfl) (by kernel_rfl) (by kernel_rfl) (fun _ _ _ h => h) (Or.inl ⟨by rfl, ?_⟩) hHeld ?_
      rotate_left
      · (intro w hSw; go_simp; all_goals (with_reducible rfl))
      try simp only [Act.put, List.setIfInBounds_toArray, List.set_cons_zero, List.set_cons_succ]
      refine held_take (i := 4) (d := 44) (v := ?_) rfl rfl (by kernel_rfl) (by kernel_rfl) (by kernel_rfl) (fun _ _ _ h => h) (Or.inl ⟨by rfl, ?_⟩) hHeld ?_
      rotate_left
      · (intro w hSw; go_simp; all_goals (with_reducible rfl))
      try simp only [Act.put, List.setIfInBounds_toArray, List.set_cons_zero, List.set_cons_succ]
      refine held_take (i := 5) (d := 45) (v := ?_) rfl rfl (by kernel_rfl) (by kernel_rfl) (by kernel_rfl) (fun _ _ _ h => h) (Or.inl ⟨by rfl, ?_⟩) hHeld ?_
      rotate_left
      · (intro w hSw; go_simp; all_goals (with_reducible rfl))
      try simp only [Act.put, List.setIfInBounds_toArray, List.set_cons_zero, List.set_cons_succ]
      refine wpAnyH_ready (rs := [6]) (by kernel_rfl) (by simp) ?_
      refine AllReadyH.cons rfl (fun K hK => ?_) AllReadyH.nil
      go_simp
      refine HAL.out.mono ?_
      rintro e v2 ⟨rfl, hb2⟩
      have HB5 : Hid (Below w.heap.size w v2) := (below_drewN HB4.out q).drew.trans (hb2.mono HB4.out.size)
      clear hb2 HAL
      go_wp2_with fail
      refine hK.out _ _ trivial (fun hHeld => ?_)
      clear hK K
      try simp only [Act.put, List.setIfInBounds_toArray, List.set_cons_zero, List.set_cons_succ]
      refine held_take (i := 7) (d := 4) (v := ?_) rfl rfl (by kernel_rfl) (by kernel_rfl) (by kernel_rfl) (fun _ _ _ h => h) (Or.inl ⟨by rfl, ?_⟩) hHeld ?_
      rotate_left
      · (intro w hSw; go_simp; all_goals (with_reducible rfl))
      try simp only [Act.put, List.setIfInBounds_toArray, List.set_cons_zero, List.set_cons_succ]
      refine wpAnyH_done (by kernel_rfl) ?_ _
      refine NoPanic.normal ?_
      go_wp2
      go_ret
      exact ⟨rfl, HB5.out⟩
end Go.Proofs.Ytlefaicdcomkjaa
