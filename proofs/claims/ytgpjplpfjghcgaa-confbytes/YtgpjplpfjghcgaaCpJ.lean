/- A configuration's bytes: the document's. -/
import Derived.Test.YtgpjplpfjghcgaaOctF
import Derived.Test.YtgpjplpfjghcgaaCoJ
import Derived.Test.YtgpjplpfjghcgaaCpA
namespace Go.Proofs.Ytgpjplpfjghcgaa
open Go Go.RowKit
set_option linter.unusedVariables false
set_option linter.unusedSimpArgs false

theorem put_small (n : Nat) (h : n < 128) : Oct.put n = [n] := by
  unfold Oct.put
  exact Oct.putF_small _ _ h
/-- on the way: what was written so far, and what came in is as it was -/
def Pd (w0 wr : World) (v : Value) (bs : List Nat) : Prop := Below w0.heap.size w0 wr ∧ Own wr w0.heap.size v bs

set_option maxRecDepth 100000 in
set_option maxHeartbeats 4000000 in
theorem rput_any (v : Value) (c : Cf) (w : World) (h : Rfr w v c) (hr : rightB c = true) (he : c.ep < 18446744073709551616) :
    Calls Try.prog 24 #[v] w fun e w' => (∃ v', e = .returned v' ∧ Own w' w.heap.size v' (bytesC c)) ∧ Below w.heap.size w w' := by
  have R := right_true hr
  have hfew := R.few
  have hall : ∀ m ∈ c.l, 0 ≤ m.1 ∧ m.1 < 8 := by
    intro m hm
    have h1 := R.ch
    simp only [chOk, okUpto, Bool.and_eq_true, List.all_eq_true] at h1
    exact srv_true.1 (h1.1.1 m.1 (List.mem_map_of_mem hm))
  have HALL : Hid (∀ m ∈ c.l, 0 ≤ m.1 ∧ m.1 < 8) := hall
  have hle : c.le = -1 ∨ (0 ≤ c.le ∧ c.le < 8) := by
    have h1 := R.le
    unfold leOk at h1
    by_cases e : c.le = -1
    · exact .inl e
    · simp [e] at h1
      exact .inr (srv_true.1 h1.1)
  have hsh0 := R.sh0
  have hsh4 := R.sh4
  obtain ⟨a, c1, w0, rfl, hw0, HB0, HN0, HC0, HM0, hl⟩ := h.box
  clear h R hall hr
  obtain ⟨ep, sh, l, le⟩ := c
  simp only at *
  obtain ⟨sn, rfl⟩ : ∃ sn : Nat, sh = (sn : Int) := ⟨sh.toNat, by omega⟩
  generalize hn : l.length = n at *
  have HLN : Hid (l.length = n) := hn
  clear hn
  obtain ⟨x0, x1, x2, x3⟩ := four_cells HN0.out
  have hlt0 : w.heap.size < w0.heap.size := by rw [← hw0, World.size_alloc]; omega
  have HLT0 : Hid (w.heap.size < w0.heap.size) := hlt0
  have h1 : IntKind.u8.wrap (sn : Int) = (sn : Int) := by simp [IntKind.wrap, IntKind.bits]; omega
  have h2 : IntKind.u8.wrap (n : Int) = (n : Int) := by simp [IntKind.wrap, IntKind.bits]; omega
  have hs256 : sn < 256 := by omega
  have hn256 : n < 256 := by omega
  have HE : Hid (ep < 2 ^ (7 * 9 + 1)) := by show ep < _; omega
  clear hlt0
  go_enter Try.func24, Try.ntmps24
  go_upto_region 1 with fail
  clear x3
  have HS : Hid (∀ W, Below w0.heap.size w0 W → W.cell? ⟨w.heap.size, 0, none⟩ = some (.int .u64 (ep : Nat)) ∧ W.cell? ⟨w.heap.size, 1, none⟩ = some (.int .i64 (sn : Nat)) ∧ W.cell? ⟨w.heap.size, 2, none⟩ = some (.slice a n c1)) := by
    intro W hW
    exact ⟨cell_later hW x0, cell_later hW x1, cell_later hW x2⟩
  clear x0 x1 x2
  refine wp_region_held_drew (S := (fun w' => w'.cell? ⟨w.heap.size, 0, none⟩ = some (.int .u64 (ep : Nat)) ∧ w'.cell? ⟨w.heap.size, 1, none⟩ = some (.int .i64 (sn : Nat)) ∧ w'.cell? ⟨w.heap.size, 2, none⟩ = some (.slice a n c1))) (by kernel_rfl) ?_ (fun hHeld => ?_)
  · exact HS.out _ (Below.refl _ _).drew
  refine held_take (i := 0) (d := 8) (v := ?_) rfl rfl (by kernel_rfl) (by kernel_rfl) (by kernel_rfl) (fun _ _ _ h => h) (Or.inl ⟨by rfl, ?_⟩) hHeld ?_
  rotate_left
  · (intro w hSw; (try dsimp only at hSw); go_simp; all_goals (with_reducible rfl))
  try simp only [Act.put, List.setIfInBounds_toArray, List.set_cons_zero, List.set_cons_succ]
  refine held_take (i := 1) (d := 9) (v := ?_) rfl rfl (by kernel_rfl) (by kernel_rfl) (by kernel_rfl) (fun _ _ _ h => h) (Or.inl ⟨by rfl, ?_⟩) hHeld ?_
  rotate_left
  · (intro w hSw; (try dsimp only at hSw); go_simp; all_goals (with_reducible rfl))
  try simp only [Act.put, List.setIfInBounds_toArray, List.set_cons_zero, List.set_cons_succ]
  refine held_take (i := 3) (d := 11) (v := ?_) rfl rfl (by kernel_rfl) (by kernel_rfl) (by kernel_rfl) (fun _ _ _ h => h) (Or.inl ⟨by rfl, ?_⟩) hHeld ?_
  rotate_left
  · (intro w hSw; (try dsimp only at hSw); go_simp; all_goals (with_reducible rfl))
  try simp only [Act.put, List.setIfInBounds_toArray, List.set_cons_zero, List.set_cons_succ]
  refine held_take (i := 4) (d := 12) (v := ?_) rfl rfl (by kernel_rfl) (by kernel_rfl) (by kernel_rfl) (fun _ _ _ h => h) (Or.inl ⟨by rfl, ?_⟩) hHeld ?_
  rotate_left
  · (intro w hSw; (try dsimp only at hSw); go_simp; all_goals (with_reducible rfl))
  try simp only [Act.put, List.setIfInBounds_toArray, List.set_cons_zero, List.set_cons_succ]
  refine held_take (i := 5) (d := 13) (v := ?_) rfl rfl (by kernel_rfl) (by kernel_rfl) (by kernel_rfl) (fun _ _ _ h => h) (Or.inl ⟨by rfl, ?_⟩) hHeld ?_
  rotate_left
  · (intro w hSw; (try dsimp only at hSw); go_simp; all_goals (with_reducible rfl))
  try simp only [Act.put, List.setIfInBounds_toArray, List.set_cons_zero, List.set_cons_succ]
  refine held_take (i := 6) (d := 14) (v := ?_) rfl rfl (by kernel_rfl) (by kernel_rfl) (by kernel_rfl) (fun _ _ _ h => h) (Or.inl ⟨by rfl, ?_⟩) hHeld ?_
  rotate_left
  · (intro w hSw; (try dsimp only at hSw); go_simp; all_goals (with_reducible rfl))
  try simp only [Act.put, List.setIfInBounds_toArray, List.set_cons_zero, List.set_cons_succ]
  refine held_take (i := 7) (d := 15) (v := ?_) rfl rfl (by kernel_rfl) (by kernel_rfl) (by kernel_rfl) (fun _ _ _ h => h) (Or.inl ⟨by rfl, ?_⟩) hHeld ?_
  rotate_left
  · (intro w hSw; (try dsimp only at hSw); go_simp; all_goals (with_reducible rfl))
  try simp only [Act.put, List.setIfInBounds_toArray, List.set_cons_zero, List.set_cons_succ]
  refine held_take (i := 8) (d := 16) (v := ?_) rfl rfl (by kernel_rfl) (by kernel_rfl) (by kernel_rfl) (fun _ _ _ h => h) (Or.inl ⟨by rfl, ?_⟩) hHeld ?_
  rotate_left
  · (intro w hSw; (try dsimp only at hSw); go_simp; all_goals (with_reducible rfl))
  try simp only [Act.put, List.setIfInBounds_toArray, List.set_cons_zero, List.set_cons_succ]
  refine held_take (i := 9) (d := 17) (v := ?_) rfl rfl (by kernel_rfl) (by kernel_rfl) (by kernel_rfl) (fun _ _ _ h => h) (Or.inl ⟨by rfl, ?_⟩) hHeld ?_
  rotate_left
  · (intro w hSw; (try dsimp only at hSw); go_simp; all_goals (with_reducible rfl))
  try simp only [Act.put, List.setIfInBounds_toArray, List.set_cons_zero, List.set_cons_succ]
  refine wpAnyH_ready (rs := [2, 10]) (by kernel_rfl) (by simp) ?_
  refine AllReadyH.cons rfl (fun K hK => ?_) (AllReadyH.cons rfl (fun K hK => ?_) AllReadyH.nil)
  · have hb9 : Below w0.heap.size w0 w0.drew := (Below.refl _ _).drew
    have h5 := ref_put_any 9 ep w0.drew (by omega) HE.out
    go_simp
    refine h5.mono ?_
    clear h5
    rintro e w5 ⟨g5, n5, c5, rfl, ho5, hb5⟩
    have HB5 : Hid (Below w0.heap.size w0 w5) := hb9.trans hb5
    have HO5 : Hid (Own w5 w0.heap.size (.slice (some ⟨g5, 0, none⟩) n5 c5) (Oct.put ep)) := ho5
    clear hb5 ho5 hb9
    go_wp2_with fail
    refine hK.out _ _ ?_ (fun hHeld => ?_)
    · exact HS.out _ HB5.out
    clear hK K
    try simp only [Act.put, List.setIfInBounds_toArray, List.set_cons_zero, List.set_cons_succ]
    refine wpAnyH_ready (rs := [10]) (by kernel_rfl) (by simp) ?_
    refine AllReadyH.cons rfl (fun K hK => ?_) AllReadyH.nil
    go_simp
    try simp only [h1, h2]
    have HB6 : Hid (Below w0.heap.size w0 (w5.alloc (.cells #[.int .u8 (sn : Nat), .int .u8 (n : Nat)] 5))) := HB5.out.alloc HB5.out.size _
    have HR6 : Hid (Row (w5.alloc (.cells #[.int .u8 (sn : Nat), .int .u8 (n : Nat)] 5)) (some ⟨w5.heap.size, 0, none⟩) 2 [sn, n]) := Row.new w5 #[.int .u8 (sn : Nat), .int .u8 (n : Nat)] 5 (0, 0) [sn, n] rfl (by simp; omega) (by simp [maxLen])
    have HO6 : Hid (Own (w5.alloc (.cells #[.int .u8 (sn : Nat), .int .u8 (n : Nat)] 5)) w0.heap.size (.slice (some ⟨g5, 0, none⟩) n5 c5) (Oct.put ep)) := HO5.out.alloc _
    refine hK.out _ _ ?_ (fun hHeld => ?_)
    · exact HS.out _ HB6.out
    clear hK K
    try simp only [Act.put, List.setIfInBounds_toArray, List.set_cons_zero, List.set_cons_succ]
    generalize w5.alloc (.cells #[.int .u8 (sn : Nat), .int .u8 (n : Nat)] 5) = w6 at *
    refine wpAnyH_ready (rs := [11]) (by kernel_rfl) (by simp) ?_
    refine AllReadyH.cons rfl (fun K hK => ?_) AllReadyH.nil
    have hbd : (Oct.put ep).length + 2 ≤ 140737488355328 := by have := (Oct.putF_len 9 ep).2; unfold Oct.put; omega
    refine step_append_row (by rfl) _ _ (by rfl) w0.heap.size _ (Oct.put ep) (by rfl) HO6.out _ 2 2 [sn, n] (by rfl) HR6.out (by simp) hbd HB6.out.size ?_
    intro v7 w7 ho7 hb7
    obtain ⟨a7, n7, cap7, rfl⟩ : ∃ a n c, v7 = .slice a n c := by obtain ⟨a, n, c, e, -⟩ := ho7.slice; exact ⟨_, _, _, e⟩
    have HP7 : Hid (Pd w0 w7 (.slice a7 n7 cap7) (Oct.put ep ++ [sn, n])) := ⟨HB6.out.trans hb7, ho7⟩
    clear ho7 hb7 hbd
    refine hK.out _ _ ?_ (fun hHeld => ?_)
    · exact HS.out _ HP7.out.1
    clear hK K
    try simp only [Act.put, List.setIfInBounds_toArray, List.set_cons_zero, List.set_cons_succ]
    refine held_take (i := 12) (d := 3) (v := ?_) rfl rfl (by kernel_rfl) (by kernel_rfl) (by kernel_rfl) (fun _ _ _ h => h) (Or.inl ⟨by rfl, ?_⟩) hHeld ?_
    rotate_left
    · (intro w hSw; (try dsimp only at hSw); go_simp; all_goals (with_reducible rfl))
    try simp only [Act.put, List.setIfInBounds_toArray, List.set_cons_zero, List.set_cons_succ]
    refine wpAnyH_done (by kernel_rfl) ?_ _
    clear hHeld HR6 HO6 HB6
    have HP3 : Hid (Pd w0 w7 (.slice a7 n7 cap7) (headB ⟨ep, sn, l, le⟩)) := by
      have e1 : headB ⟨ep, sn, l, le⟩ = Oct.put ep ++ [sn, n] := by simp only [headB, Int.toNat_natCast, HLN.out]; rw [put_small sn (by omega), put_small n (by omega), List.append_assoc]; rfl
      rw [e1]; exact HP7.out
    clear HP7
    obtain ⟨y0, y1, y2⟩ := HS.out _ HP3.out.1
    go_wp2
    clear y0 y1 y2
    go_loopw [3, 23] (fun v i wr => ∃ k : Nat, k ≤ n ∧ i = .int .i64 (k : Nat) ∧ ∃ a8 n8 c8, v = .slice a8 n8 c8 ∧ Hid (Pd w0 wr (.slice a8 n8 c8) (headB ⟨ep, sn, l, le⟩ ++ membersB (l.take k)))) (fun _ i _ => n - (intOf i).toNat)
    case atStart => exact ⟨0, Nat.zero_le _, rfl, _, _, _, rfl, by rw [List.take_zero]; show Pd _ _ _ (_ ++ []); rw [List.append_nil]; exact HP3.out⟩
    case round =>
      obtain ⟨k, hk, rfl, a8, n8, c8, rfl, HP⟩ := hrel
      clear HP3
      have HLB : Hid (∀ k, (headB ⟨ep, sn, l, le⟩ ++ membersB (l.take k)).length ≤ 100000) := by
        intro k
        have h5 := (Oct.putF_len 9 ep).2
        have h6 : ∀ q : List Mb, (∀ m ∈ q, 0 ≤ m.1 ∧ m.1 < 8) → (membersB q).length = 2 * q.length := by
          intro q
          induction q with
          | nil => intro _; rfl
          | cons m q ih =>
            intro hq
            have h7 := hq m (by simp)
            have h8 : (membersB (m :: q)).length = (Oct.put m.1.toNat).length + (Oct.put (bit m.2)).length + (membersB q).length := by simp [membersB]; omega
            rw [h8, ih (fun x hx => hq x (by simp [hx])), put_small _ (show m.1.toNat < 128 by omega), put_small _ (show bit m.2 < 128 by unfold bit; split <;> omega)]
            simp; omega
        have h7 := h6 (l.take k) (fun m hm => HALL.out m (List.mem_of_mem_take hm))
        have h8 : (l.take k).length ≤ 8 := by rw [List.length_take, HLN.out]; omega
        have h9 : (headB ⟨ep, sn, l, le⟩).length ≤ 12 := by
          simp only [headB, Int.toNat_natCast, HLN.out, List.length_append]; rw [put_small sn (by omega), put_small n (by omega)]; simp; unfold Oct.put; omega
        rw [List.length_append, h7]; omega
      by_cases hlt : k < n
      · have hkl : k < l.length := by rw [HLN.out]; exact hlt
        have hin := HALL.out l[k] (List.getElem_mem hkl)
        have HT : Hid (l.take (k + 1) = l.take k ++ [l[k]]) := List.take_succ_eq_append_getElem hkl
        obtain ⟨ba, oa, rfl, hca⟩ := (HM0.out.later HP.out.1).at (by omega)
        obtain ⟨q0, q1⟩ := hca k _ (List.getElem?_eq_getElem hkl)
        clear hca
        generalize l[k] = m at q0 q1 hin HT
        obtain ⟨mx, mf⟩ := m
        simp only at q0 q1 hin
        obtain ⟨xn, rfl⟩ : ∃ xn : Nat, mx = (xn : Int) := ⟨mx.toNat, by omega⟩
        have h3 : (xn : Int) % 256 = (xn : Int) := by omega
        have hk0 : (0 : Int) ≤ (k : Int) := by omega
        have hx256 : xn < 256 := by omega
        have HBM : Hid (membersB (l.take (k + 1)) = membersB (l.take k) ++ [xn, bit mf]) := by
          rw [Hid, HT.out, membersB_snoc, List.append_assoc]
          simp only [Int.toNat_natCast]
          rw [put_small xn (by omega), put_small (bit mf) (by unfold bit; split <;> omega)]; rfl
        have HSZ : Hid (w0.heap.size ≤ wr.heap.size) := HP.out.1.size
        have hb1 : Below w0.heap.size w0 (wr.alloc (.cells #[.int .i64 xn, .bool mf] 40)) := HP.out.1.alloc HSZ.out _
        have ho1 : Own (wr.alloc (.cells #[.int .i64 xn, .bool mf] 40)) w0.heap.size (.slice a8 n8 c8) (headB ⟨ep, sn, l, le⟩ ++ membersB (l.take k)) := HP.out.2.alloc _
        have hm1 : (wr.alloc (.cells #[.int .i64 xn, .bool mf] 40)).heap[wr.heap.size]? = some (.cells #[.int .i64 xn, .bool mf] 40) := heap_alloc_new _ _
        go_upto_region 5 with fail
        generalize wr.alloc (.cells #[.int .i64 xn, .bool mf] 40) = w1 at *
        have z0 : w1.cell? ⟨wr.heap.size, 0, none⟩ = some (.int .i64 xn) := cell_of_heap hm1 rfl
        have z1 : w1.cell? ⟨wr.heap.size, 1, none⟩ = some (.bool mf) := cell_of_heap hm1 rfl
        clear q0 q1 hm1
        cases mf
        case false =>
          have ho2 : Row (w1.alloc (.cells #[.int .u8 (xn : Nat), .int .u8 0] 5)) (some ⟨w1.heap.size, 0, none⟩) 2 [xn, 0] := Row.new w1 #[.int .u8 (xn : Nat), .int .u8 0] 5 (0, 0) [xn, 0] rfl (by simp; omega) (by simp [maxLen])
          have ho3 : Own (w1.alloc (.cells #[.int .u8 (xn : Nat), .int .u8 0] 5)) w0.heap.size (.slice a8 n8 c8) (headB ⟨ep, sn, l, le⟩ ++ membersB (l.take k)) := ho1.alloc _
          have hb2 : Below w0.heap.size w0 (w1.alloc (.cells #[.int .u8 (xn : Nat), .int .u8 0] 5)) := hb1.alloc hb1.size _
          have HO3 : Hid (Own (w1.alloc (.cells #[.int .u8 (xn : Nat), .int .u8 0] 5)) w0.heap.size (.slice a8 n8 c8) (headB ⟨ep, sn, l, le⟩ ++ membersB (l.take k))) := ho3
          have HR3 : Hid (Row (w1.alloc (.cells #[.int .u8 (xn : Nat), .int .u8 0] 5)) (some ⟨w1.heap.size, 0, none⟩) 2 [xn, 0]) := ho2
          have HB3 : Hid (Below w0.heap.size w0 (w1.alloc (.cells #[.int .u8 (xn : Nat), .int .u8 0] 5))) := hb2
          clear ho2 ho3 hb2 ho1 hb1
          go_wp2_with (at_builtin; refine wp_append_row rfl _ _ rfl w0.heap.size _ _ rfl HO3.out _ _ _ _ rfl HR3.out (by simp) (Nat.le_trans (Nat.add_le_add_right (HLB.out k) 2) (by omega)) HB3.out.size ?_; intro v4 w4 ho4 hb4; obtain ⟨a9, n9, c9, rfl⟩ : ∃ a n c, v4 = .slice a n c := (by obtain ⟨a, n, c, e, -⟩ := ho4.slice; exact ⟨_, _, _, e⟩); have HP4 : Hid (Pd w0 w4 (.slice a9 n9 c9) (headB ⟨ep, sn, l, le⟩ ++ membersB (l.take (k + 1)))) := (by rw [Hid, HBM.out, ← List.append_assoc]; exact ⟨HB3.out.trans hb4, ho4⟩); clear ho4 hb4)
          go_roundw
          case rel => exact ⟨k + 1, by omega, by go_num, _, _, _, rfl, HP4⟩
          case measure => simp [intOf]; omega
        case true =>
          have ho2 : Row (w1.alloc (.cells #[.int .u8 (xn : Nat), .int .u8 1] 5)) (some ⟨w1.heap.size, 0, none⟩) 2 [xn, 1] := Row.new w1 #[.int .u8 (xn : Nat), .int .u8 1] 5 (0, 0) [xn, 1] rfl (by simp; omega) (by simp [maxLen])
          have ho3 : Own (w1.alloc (.cells #[.int .u8 (xn : Nat), .int .u8 1] 5)) w0.heap.size (.slice a8 n8 c8) (headB ⟨ep, sn, l, le⟩ ++ membersB (l.take k)) := ho1.alloc _
          have hb2 : Below w0.heap.size w0 (w1.alloc (.cells #[.int .u8 (xn : Nat), .int .u8 1] 5)) := hb1.alloc hb1.size _
          have HO3 : Hid (Own (w1.alloc (.cells #[.int .u8 (xn : Nat), .int .u8 1] 5)) w0.heap.size (.slice a8 n8 c8) (headB ⟨ep, sn, l, le⟩ ++ membersB (l.take k))) := ho3
          have HR3 : Hid (Row (w1.alloc (.cells #[.int .u8 (xn : Nat), .int .u8 1] 5)) (some ⟨w1.heap.size, 0, none⟩) 2 [xn, 1]) := ho2
          have HB3 : Hid (Below w0.heap.size w0 (w1.alloc (.cells #[.int .u8 (xn : Nat), .int .u8 1] 5))) := hb2
          clear ho2 ho3 hb2 ho1 hb1
          go_wp2_with (at_builtin; refine wp_append_row rfl _ _ rfl w0.heap.size _ _ rfl HO3.out _ _ _ _ rfl HR3.out (by simp) (Nat.le_trans (Nat.add_le_add_right (HLB.out k) 2) (by omega)) HB3.out.size ?_; intro v4 w4 ho4 hb4; obtain ⟨a9, n9, c9, rfl⟩ : ∃ a n c, v4 = .slice a n c := (by obtain ⟨a, n, c, e, -⟩ := ho4.slice; exact ⟨_, _, _, e⟩); have HP4 : Hid (Pd w0 w4 (.slice a9 n9 c9) (headB ⟨ep, sn, l, le⟩ ++ membersB (l.take (k + 1)))) := (by rw [Hid, HBM.out, ← List.append_assoc]; exact ⟨HB3.out.trans hb4, ho4⟩); clear ho4 hb4)
          go_roundw
          case rel => exact ⟨k + 1, by omega, by go_num, _, _, _, rfl, HP4⟩
          case measure => simp [intOf]; omega
      · have HP4 : Hid (Pd w0 wr (.slice a8 n8 c8) (headB ⟨ep, sn, l, le⟩ ++ membersB l)) := by
          have hh := HP.out
          rw [List.take_of_length_le (by rw [HLN.out]; omega)] at hh
          exact hh
        have HLB2 : Hid ((headB ⟨ep, sn, l, le⟩ ++ membersB l).length ≤ 100000) := by
          have hh := HLB.out k
          rw [List.take_of_length_le (by rw [HLN.out]; omega)] at hh
          exact hh
        clear HP HLB
        obtain ⟨y0, y1, y2⟩ := HS.out _ HP4.out.1
        have y3 : wr.cell? ⟨w.heap.size, 3, none⟩ = some (.int .i64 le) := cell_later HP4.out.1 (four_cells HN0.out).2.2.2
        clear y0 y1 y2
        by_cases hm1 : le = -1
        · subst hm1
          have HO3 : Hid (Own (wr.alloc (.cells #[.int .u8 8] 5)) w0.heap.size (.slice a8 n8 c8) (headB ⟨ep, sn, l, -1⟩ ++ membersB l)) := HP4.out.2.alloc _
          have HR3 : Hid (Row (wr.alloc (.cells #[.int .u8 8] 5)) (some ⟨wr.heap.size, 0, none⟩) 1 [8]) := Row.new wr #[.int .u8 8] 5 (0, 0) [8] rfl (by simp; try omega) (by simp [maxLen])
          have HB3 : Hid (Below w0.heap.size w0 (wr.alloc (.cells #[.int .u8 8] 5))) := HP4.out.1.alloc HP4.out.1.size _
          have HF : Hid (bytesC ⟨ep, sn, l, -1⟩ = headB ⟨ep, sn, l, -1⟩ ++ membersB l ++ [8]) := by simp only [Hid, bytesC, learnerB, if_pos]; rw [put_small 8 (by omega)]
          clear HP4
          go_wp2_with (at_builtin; refine wp_append_row rfl _ _ rfl w0.heap.size _ _ rfl HO3.out _ _ _ _ rfl HR3.out (by simp) (Nat.le_trans (Nat.add_le_add_right HLB2.out 1) (by omega)) HB3.out.size ?_; intro v4 w4 ho4 hb4; have HP4 : Hid (Own w4 w0.heap.size v4 (bytesC ⟨ep, sn, l, -1⟩) ∧ Below w0.heap.size w0 w4) := (by rw [Hid, HF.out]; exact ⟨ho4, HB3.out.trans hb4⟩); clear ho4 hb4)
          go_ret
          exact ⟨⟨_, rfl, HP4.out.1.mono (Nat.le_of_lt HLT0.out)⟩, HB0.out.trans (HP4.out.2.mono HB0.out.size)⟩
        · obtain ⟨ln, rfl⟩ : ∃ ln : Nat, le = (ln : Int) := ⟨le.toNat, by omega⟩
          have hnl : ¬ ((ln : Int) < 0) := by omega
          have h4 : (ln : Int) % 256 = (ln : Int) := by omega
          have HO3 : Hid (Own (wr.alloc (.cells #[.int .u8 (ln : Nat)] 5)) w0.heap.size (.slice a8 n8 c8) (headB ⟨ep, sn, l, ln⟩ ++ membersB l)) := HP4.out.2.alloc _
          have HR3 : Hid (Row (wr.alloc (.cells #[.int .u8 (ln : Nat)] 5)) (some ⟨wr.heap.size, 0, none⟩) 1 [ln]) := Row.new wr #[.int .u8 (ln : Nat)] 5 (0, 0) [ln] rfl (by simp; try omega) (by simp [maxLen])
          have HB3 : Hid (Below w0.heap.size w0 (wr.alloc (.cells #[.int .u8 (ln : Nat)] 5))) := HP4.out.1.alloc HP4.out.1.size _
          have HF : Hid (bytesC ⟨ep, sn, l, ln⟩ = headB ⟨ep, sn, l, ln⟩ ++ membersB l ++ [ln]) := by simp only [Hid, bytesC, learnerB, hm1, if_false, Int.toNat_natCast]; rw [put_small ln (by omega)]
          clear HP4
          go_wp2_with (at_builtin; refine wp_append_row rfl _ _ rfl w0.heap.size _ _ rfl HO3.out _ _ _ _ rfl HR3.out (by simp) (Nat.le_trans (Nat.add_le_add_right HLB2.out 1) (by omega)) HB3.out.size ?_; intro v4 w4 ho4 hb4; have HP4 : Hid (Own w4 w0.heap.size v4 (bytesC ⟨ep, sn, l, ln⟩) ∧ Below w0.heap.size w0 w4) := (by rw [Hid, HF.out]; exact ⟨ho4, HB3.out.trans hb4⟩); clear ho4 hb4)
          go_ret
          exact ⟨⟨_, rfl, HP4.out.1.mono (Nat.le_of_lt HLT0.out)⟩, HB0.out.trans (HP4.out.2.mono HB0.out.size)⟩
  · go_simp
    try simp only [h1, h2]
    have HB5 : Hid (Below w0.heap.size w0 (w0.alloc (.cells #[.int .u8 (sn : Nat), .int .u8 (n : Nat)] 5)).drew) := ((Below.refl _ _).alloc (Nat.le_refl _) _).drew
    have HR5 : Hid (Row (w0.alloc (.cells #[.int .u8 (sn : Nat), .int .u8 (n : Nat)] 5)).drew (some ⟨w0.heap.size, 0, none⟩) 2 [sn, n]) := Row.new w0 #[.int .u8 (sn : Nat), .int .u8 (n : Nat)] 5 (0, 0) [sn, n] rfl (by simp; omega) (by simp [maxLen])
    refine hK.out _ _ ?_ (fun hHeld => ?_)
    · exact HS.out _ HB5.out
    clear hK K
    try simp only [Act.put, List.setIfInBounds_toArray, List.set_cons_zero, List.set_cons_succ]
    refine wpAnyH_ready (rs := [2]) (by kernel_rfl) (by simp) ?_
    refine AllReadyH.cons rfl (fun K hK => ?_) AllReadyH.nil
    have h5 := ref_put_any 9 ep (w0.alloc (.cells #[.int .u8 (sn : Nat), .int .u8 (n : Nat)] 5)).drew (by omega) HE.out
    generalize (w0.alloc (.cells #[.int .u8 (sn : Nat), .int .u8 (n : Nat)] 5)).drew = w5 at *
    go_simp
    refine h5.mono ?_
    clear h5
    rintro e w6 ⟨g5, n5, c5, rfl, ho6, hb6⟩
    have HB6 : Hid (Below w0.heap.size w0 w6) := HB5.out.trans (hb6.mono HB5.out.size)
    have HO6 : Hid (Own w6 w0.heap.size (.slice (some ⟨g5, 0, none⟩) n5 c5) (Oct.put ep)) := ho6.mono HB5.out.size
    have HR6 : Hid (Row w6 (some ⟨w0.heap.size, 0, none⟩) 2 [sn, n]) := HR5.out.later hb6
    clear hb6 ho6
    go_wp2_with fail
    refine hK.out _ _ ?_ (fun hHeld => ?_)
    · exact HS.out _ HB6.out
    clear hK K
    try simp only [Act.put, List.setIfInBounds_toArray, List.set_cons_zero, List.set_cons_succ]
    refine wpAnyH_ready (rs := [11]) (by kernel_rfl) (by simp) ?_
    refine AllReadyH.cons rfl (fun K hK => ?_) AllReadyH.nil
    have hbd : (Oct.put ep).length + 2 ≤ 140737488355328 := by have := (Oct.putF_len 9 ep).2; unfold Oct.put; omega
    refine step_append_row (by rfl) _ _ (by rfl) w0.heap.size _ (Oct.put ep) (by rfl) HO6.out _ 2 2 [sn, n] (by rfl) HR6.out (by simp) hbd HB6.out.size ?_
    intro v7 w7 ho7 hb7
    obtain ⟨a7, n7, cap7, rfl⟩ : ∃ a n c, v7 = .slice a n c := by obtain ⟨a, n, c, e, -⟩ := ho7.slice; exact ⟨_, _, _, e⟩
    have HP7 : Hid (Pd w0 w7 (.slice a7 n7 cap7) (Oct.put ep ++ [sn, n])) := ⟨HB6.out.trans hb7, ho7⟩
    clear ho7 hb7 hbd
    refine hK.out _ _ ?_ (fun hHeld => ?_)
    · exact HS.out _ HP7.out.1
    clear hK K
    try simp only [Act.put, List.setIfInBounds_toArray, List.set_cons_zero, List.set_cons_succ]
    refine held_take (i := 12) (d := 3) (v := ?_) rfl rfl (by kernel_rfl) (by kernel_rfl) (by kernel_rfl) (fun _ _ _ h => h) (Or.inl ⟨by rfl, ?_⟩) hHeld ?_
    rotate_left
    · (intro w hSw; (try dsimp only at hSw); go_simp; all_goals (with_reducible rfl))
    try simp only [Act.put, List.setIfInBounds_toArray, List.set_cons_zero, List.set_cons_succ]
    refine wpAnyH_done (by kernel_rfl) ?_ _
    clear hHeld HR6 HO6 HB6
    have HP3 : Hid (Pd w0 w7 (.slice a7 n7 cap7) (headB ⟨ep, sn, l, le⟩)) := by
      have e1 : headB ⟨ep, sn, l, le⟩ = Oct.put ep ++ [sn, n] := by simp only [headB, Int.toNat_natCast, HLN.out]; rw [put_small sn (by omega), put_small n (by omega), List.append_assoc]; rfl
      rw [e1]; exact HP7.out
    clear HP7
    obtain ⟨y0, y1, y2⟩ := HS.out _ HP3.out.1
    go_wp2
    clear y0 y1 y2
    go_loopw [3, 23] (fun v i wr => ∃ k : Nat, k ≤ n ∧ i = .int .i64 (k : Nat) ∧ ∃ a8 n8 c8, v = .slice a8 n8 c8 ∧ Hid (Pd w0 wr (.slice a8 n8 c8) (headB ⟨ep, sn, l, le⟩ ++ membersB (l.take k)))) (fun _ i _ => n - (intOf i).toNat)
    case atStart => exact ⟨0, Nat.zero_le _, rfl, _, _, _, rfl, by rw [List.take_zero]; show Pd _ _ _ (_ ++ []); rw [List.append_nil]; exact HP3.out⟩
    case round =>
      obtain ⟨k, hk, rfl, a8, n8, c8, rfl, HP⟩ := hrel
      clear HP3
      have HLB : Hid (∀ k, (headB ⟨ep, sn, l, le⟩ ++ membersB (l.take k)).length ≤ 100000) := by
        intro k
        have h5 := (Oct.putF_len 9 ep).2
        have h6 : ∀ q : List Mb, (∀ m ∈ q, 0 ≤ m.1 ∧ m.1 < 8) → (membersB q).length = 2 * q.length := by
          intro q
          induction q with
          | nil => intro _; rfl
          | cons m q ih =>
            intro hq
            have h7 := hq m (by simp)
            have h8 : (membersB (m :: q)).length = (Oct.put m.1.toNat).length + (Oct.put (bit m.2)).length + (membersB q).length := by simp [membersB]; omega
            rw [h8, ih (fun x hx => hq x (by simp [hx])), put_small _ (show m.1.toNat < 128 by omega), put_small _ (show bit m.2 < 128 by unfold bit; split <;> omega)]
            simp; omega
        have h7 := h6 (l.take k) (fun m hm => HALL.out m (List.mem_of_mem_take hm))
        have h8 : (l.take k).length ≤ 8 := by rw [List.length_take, HLN.out]; omega
        have h9 : (headB ⟨ep, sn, l, le⟩).length ≤ 12 := by
          simp only [headB, Int.toNat_natCast, HLN.out, List.length_append]; rw [put_small sn (by omega), put_small n (by omega)]; simp; unfold Oct.put; omega
        rw [List.length_append, h7]; omega
      by_cases hlt : k < n
      · have hkl : k < l.length := by rw [HLN.out]; exact hlt
        have hin := HALL.out l[k] (List.getElem_mem hkl)
        have HT : Hid (l.take (k + 1) = l.take k ++ [l[k]]) := List.take_succ_eq_append_getElem hkl
        obtain ⟨ba, oa, rfl, hca⟩ := (HM0.out.later HP.out.1).at (by omega)
        obtain ⟨q0, q1⟩ := hca k _ (List.getElem?_eq_getElem hkl)
        clear hca
        generalize l[k] = m at q0 q1 hin HT
        obtain ⟨mx, mf⟩ := m
        simp only at q0 q1 hin
        obtain ⟨xn, rfl⟩ : ∃ xn : Nat, mx = (xn : Int) := ⟨mx.toNat, by omega⟩
        have h3 : (xn : Int) % 256 = (xn : Int) := by omega
        have hk0 : (0 : Int) ≤ (k : Int) := by omega
        have hx256 : xn < 256 := by omega
        have HBM : Hid (membersB (l.take (k + 1)) = membersB (l.take k) ++ [xn, bit mf]) := by
          rw [Hid, HT.out, membersB_snoc, List.append_assoc]
          simp only [Int.toNat_natCast]
          rw [put_small xn (by omega), put_small (bit mf) (by unfold bit; split <;> omega)]; rfl
        have HSZ : Hid (w0.heap.size ≤ wr.heap.size) := HP.out.1.size
        have hb1 : Below w0.heap.size w0 (wr.alloc (.cells #[.int .i64 xn, .bool mf] 40)) := HP.out.1.alloc HSZ.out _
        have ho1 : Own (wr.alloc (.cells #[.int .i64 xn, .bool mf] 40)) w0.heap.size (.slice a8 n8 c8) (headB ⟨ep, sn, l, le⟩ ++ membersB (l.take k)) := HP.out.2.alloc _
        have hm1 : (wr.alloc (.cells #[.int .i64 xn, .bool mf] 40)).heap[wr.heap.size]? = some (.cells #[.int .i64 xn, .bool mf] 40) := heap_alloc_new _ _
        go_upto_region 5 with fail
        generalize wr.alloc (.cells #[.int .i64 xn, .bool mf] 40) = w1 at *
        have z0 : w1.cell? ⟨wr.heap.size, 0, none⟩ = some (.int .i64 xn) := cell_of_heap hm1 rfl
        have z1 : w1.cell? ⟨wr.heap.size, 1, none⟩ = some (.bool mf) := cell_of_heap hm1 rfl
        clear q0 q1 hm1
        cases mf
        case false =>
          have ho2 : Row (w1.alloc (.cells #[.int .u8 (xn : Nat), .int .u8 0] 5)) (some ⟨w1.heap.size, 0, none⟩) 2 [xn, 0] := Row.new w1 #[.int .u8 (xn : Nat), .int .u8 0] 5 (0, 0) [xn, 0] rfl (by simp; omega) (by simp [maxLen])
          have ho3 : Own (w1.alloc (.cells #[.int .u8 (xn : Nat), .int .u8 0] 5)) w0.heap.size (.slice a8 n8 c8) (headB ⟨ep, sn, l, le⟩ ++ membersB (l.take k)) := ho1.alloc _
          have hb2 : Below w0.heap.size w0 (w1.alloc (.cells #[.int .u8 (xn : Nat), .int .u8 0] 5)) := hb1.alloc hb1.size _
          have HO3 : Hid (Own (w1.alloc (.cells #[.int .u8 (xn : Nat), .int .u8 0] 5)) w0.heap.size (.slice a8 n8 c8) (headB ⟨ep, sn, l, le⟩ ++ membersB (l.take k))) := ho3
          have HR3 : Hid (Row (w1.alloc (.cells #[.int .u8 (xn : Nat), .int .u8 0] 5)) (some ⟨w1.heap.size, 0, none⟩) 2 [xn, 0]) := ho2
          have HB3 : Hid (Below w0.heap.size w0 (w1.alloc (.cells #[.int .u8 (xn : Nat), .int .u8 0] 5))) := hb2
          clear ho2 ho3 hb2 ho1 hb1
          go_wp2_with (at_builtin; refine wp_append_row rfl _ _ rfl w0.heap.size _ _ rfl HO3.out _ _ _ _ rfl HR3.out (by simp) (Nat.le_trans (Nat.add_le_add_right (HLB.out k) 2) (by omega)) HB3.out.size ?_; intro v4 w4 ho4 hb4; obtain ⟨a9, n9, c9, rfl⟩ : ∃ a n c, v4 = .slice a n c := (by obtain ⟨a, n, c, e, -⟩ := ho4.slice; exact ⟨_, _, _, e⟩); have HP4 : Hid (Pd w0 w4 (.slice a9 n9 c9) (headB ⟨ep, sn, l, le⟩ ++ membersB (l.take (k + 1)))) := (by rw [Hid, HBM.out, ← List.append_assoc]; exact ⟨HB3.out.trans hb4, ho4⟩); clear ho4 hb4)
          go_roundw
          case rel => exact ⟨k + 1, by omega, by go_num, _, _, _, rfl, HP4⟩
          case measure => simp [intOf]; omega
        case true =>
          have ho2 : Row (w1.alloc (.cells #[.int .u8 (xn : Nat), .int .u8 1] 5)) (some ⟨w1.heap.size, 0, none⟩) 2 [xn, 1] := Row.new w1 #[.int .u8 (xn : Nat), .int .u8 1] 5 (0, 0) [xn, 1] rfl (by simp; omega) (by simp [maxLen])
          have ho3 : Own (w1.alloc (.cells #[.int .u8 (xn : Nat), .int .u8 1] 5)) w0.heap.size (.slice a8 n8 c8) (headB ⟨ep, sn, l, le⟩ ++ membersB (l.take k)) := ho1.alloc _
          have hb2 : Below w0.heap.size w0 (w1.alloc (.cells #[.int .u8 (xn : Nat), .int .u8 1] 5)) := hb1.alloc hb1.size _
          have HO3 : Hid (Own (w1.alloc (.cells #[.int .u8 (xn : Nat), .int .u8 1] 5)) w0.heap.size (.slice a8 n8 c8) (headB ⟨ep, sn, l, le⟩ ++ membersB (l.take k))) := ho3
          have HR3 : Hid (Row (w1.alloc (.cells #[.int .u8 (xn : Nat), .int .u8 1] 5)) (some ⟨w1.heap.size, 0, none⟩) 2 [xn, 1]) := ho2
          have HB3 : Hid (Below w0.heap.size w0 (w1.alloc (.cells #[.int .u8 (xn : Nat), .int .u8 1] 5))) := hb2
          clear ho2 ho3 hb2 ho1 hb1
          go_wp2_with (at_builtin; refine wp_append_row rfl _ _ rfl w0.heap.size _ _ rfl HO3.out _ _ _ _ rfl HR3.out (by simp) (Nat.le_trans (Nat.add_le_add_right (HLB.out k) 2) (by omega)) HB3.out.size ?_; intro v4 w4 ho4 hb4; obtain ⟨a9, n9, c9, rfl⟩ : ∃ a n c, v4 = .slice a n c := (by obtain ⟨a, n, c, e, -⟩ := ho4.slice; exact ⟨_, _, _, e⟩); have HP4 : Hid (Pd w0 w4 (.slice a9 n9 c9) (headB ⟨ep, sn, l, le⟩ ++ membersB (l.take (k + 1)))) := (by rw [Hid, HBM.out, ← List.append_assoc]; exact ⟨HB3.out.trans hb4, ho4⟩); clear ho4 hb4)
          go_roundw
          case rel => exact ⟨k + 1, by omega, by go_num, _, _, _, rfl, HP4⟩
          case measure => simp [intOf]; omega
      · have HP4 : Hid (Pd w0 wr (.slice a8 n8 c8) (headB ⟨ep, sn, l, le⟩ ++ membersB l)) := by
          have hh := HP.out
          rw [List.take_of_length_le (by rw [HLN.out]; omega)] at hh
          exact hh
        have HLB2 : Hid ((headB ⟨ep, sn, l, le⟩ ++ membersB l).length ≤ 100000) := by
          have hh := HLB.out k
          rw [List.take_of_length_le (by rw [HLN.out]; omega)] at hh
          exact hh
        clear HP HLB
        obtain ⟨y0, y1, y2⟩ := HS.out _ HP4.out.1
        have y3 : wr.cell? ⟨w.heap.size, 3, none⟩ = some (.int .i64 le) := cell_later HP4.out.1 (four_cells HN0.out).2.2.2
        clear y0 y1 y2
        by_cases hm1 : le = -1
        · subst hm1
          have HO3 : Hid (Own (wr.alloc (.cells #[.int .u8 8] 5)) w0.heap.size (.slice a8 n8 c8) (headB ⟨ep, sn, l, -1⟩ ++ membersB l)) := HP4.out.2.alloc _
          have HR3 : Hid (Row (wr.alloc (.cells #[.int .u8 8] 5)) (some ⟨wr.heap.size, 0, none⟩) 1 [8]) := Row.new wr #[.int .u8 8] 5 (0, 0) [8] rfl (by simp; try omega) (by simp [maxLen])
          have HB3 : Hid (Below w0.heap.size w0 (wr.alloc (.cells #[.int .u8 8] 5))) := HP4.out.1.alloc HP4.out.1.size _
          have HF : Hid (bytesC ⟨ep, sn, l, -1⟩ = headB ⟨ep, sn, l, -1⟩ ++ membersB l ++ [8]) := by simp only [Hid, bytesC, learnerB, if_pos]; rw [put_small 8 (by omega)]
          clear HP4
          go_wp2_with (at_builtin; refine wp_append_row rfl _ _ rfl w0.heap.size _ _ rfl HO3.out _ _ _ _ rfl HR3.out (by simp) (Nat.le_trans (Nat.add_le_add_right HLB2.out 1) (by omega)) HB3.out.size ?_; intro v4 w4 ho4 hb4; have HP4 : Hid (Own w4 w0.heap.size v4 (bytesC ⟨ep, sn, l, -1⟩) ∧ Below w0.heap.size w0 w4) := (by rw [Hid, HF.out]; exact ⟨ho4, HB3.out.trans hb4⟩); clear ho4 hb4)
          go_ret
          exact ⟨⟨_, rfl, HP4.out.1.mono (Nat.le_of_lt HLT0.out)⟩, HB0.out.trans (HP4.out.2.mono HB0.out.size)⟩
        · obtain ⟨ln, rfl⟩ : ∃ ln : Nat, le = (ln : Int) := ⟨le.toNat, by omega⟩
          have hnl : ¬ ((ln : Int) < 0) := by omega
          have h4 : (ln : Int) % 256 = (ln : Int) := by omega
          have HO3 : Hid (Own (wr.alloc (.cells #[.int .u8 (ln : Nat)] 5)) w0.heap.size (.slice a8 n8 c8) (headB ⟨ep, sn, l, ln⟩ ++ membersB l)) := HP4.out.2.alloc _
          have HR3 : Hid (Row (wr.alloc (.cells #[.int .u8 (ln : Nat)] 5)) (some ⟨wr.heap.size, 0, none⟩) 1 [ln]) := Row.new wr #[.int .u8 (ln : Nat)] 5 (0, 0) [ln] rfl (by simp; try omega) (by simp [maxLen])
          have HB3 : Hid (Below w0.heap.size w0 (wr.alloc (.cells #[.int .u8 (ln : Nat)] 5))) := HP4.out.1.alloc HP4.out.1.size _
          have HF : Hid (bytesC ⟨ep, sn, l, ln⟩ = headB ⟨ep, sn, l, ln⟩ ++ membersB l ++ [ln]) := by simp only [Hid, bytesC, learnerB, hm1, if_false, Int.toNat_natCast]; rw [put_small ln (by omega)]
          clear HP4
          go_wp2_with (at_builtin; refine wp_append_row rfl _ _ rfl w0.heap.size _ _ rfl HO3.out _ _ _ _ rfl HR3.out (by simp) (Nat.le_trans (Nat.add_le_add_right HLB2.out 1) (by omega)) HB3.out.size ?_; intro v4 w4 ho4 hb4; have HP4 : Hid (Own w4 w0.heap.size v4 (bytesC ⟨ep, sn, l, ln⟩) ∧ Below w0.heap.size w0 w4) := (by rw [Hid, HF.out]; exact ⟨ho4, HB3.out.trans hb4⟩); clear ho4 hb4)
          go_ret
          exact ⟨⟨_, rfl, HP4.out.1.mono (Nat.le_of_lt HLT0.out)⟩, HB0.out.trans (HP4.out.2.mono HB0.out.size)⟩
end Go.Proofs.Ytgpjplpfjghcgaa
