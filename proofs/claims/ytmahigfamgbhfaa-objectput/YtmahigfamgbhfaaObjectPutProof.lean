/-
  For every list of versions, every number, every value, gone or not: a version more behind the first twenty is as the chapter says, and undone it is as it was (the law ObjectPut returns true and leaves its arguments as they were).
-/
import Derived.Test.YtmahigfamgbhfaaRows
import Derived.Test.YtmahigfamgbhfaaObO
import Derived.Test.YtmahigfamgbhfaaObC
import Derived.Test.YtmahigfamgbhfaaObH
import Derived.Test.YtmahigfamgbhfaaObJ
import Derived.WalkKit
import Derived.ProofKit
import Derived.OpenShut
import Derived.ShutString
import Derived.ChangeOld
import Derived.Below
namespace Go.Proofs.Ytmahigfamgbhfaa.objectPut
open Go.ChangeShapes Go.WideShapes Go.ChangeAt Go.RowKit
open Go.ChangeMaps (open_string shut_string)
set_option linter.unusedSimpArgs false
set_option linter.unusedVariables false

theorem own : ownKnob Try.prog.godebug = none := by kernel_rfl
theorem laidOut : laidOutB Try.prog = true := by kernel_rfl

theorem fld25 (a : Option Addr) (n c : Nat) (w : World) : (Instr.field 25 (.agg #[.slice a n c]) 0).run Try.prog w = .ok (.slice a n c) w := by kernel_rfl

theorem own_row {w : World} {base : Nat} {e : TypeId} {v : Value} {l : List Ver} (h : VOwn w base e v l) : ∃ a n c, v = .slice a n c ∧ VRow w a n l := by
  obtain ⟨a, c, e, hr, -⟩ := h.slice
  exact ⟨_, _, _, e, hr⟩
theorem step_append_at {w : World} {ops : Array Oper} {o : Oper} {a : Act} {K : Act → World → Prop} {Q : Exit → Act → World → Prop} {E : Prop} {d : Nat} (hd : o.dst = some d) (hgd : o.guard = none) (s x : Operand)
    (t e : TypeId) (hu : Try.prog.underlying t = some (.slice e)) (hinfo : (Try.prog.info? e).map (fun i => (i.zero, i.size, i.bytes)) = some (some (.agg #[.int .i64 0, .int .u64 0, .string ⟨#[]⟩, .bool false]), 4, 40))
    (ho : o.op = .call { callee := .builtin .append, args := #[s, x], argTypes := #[t, t] })
    (base : Nat) (v : Value) (l : List Ver) (hs : a.eval s = v) (hown : VOwn w base e v l)
    (g c : Nat) (u : Ver) (hx : a.eval x = .slice (some ⟨g, 0, none⟩) 1 c) (hc : VarV w g e u) (hok : u.ok)
    (hmany : l.length ≤ 1000000000) (hbase : base ≤ w.heap.size)
    (h : ∀ v' w', VOwn w' base e v' (l ++ [u]) → Below base w w' → K (a.put (some d) v') w') :
    if Region.wanted o (yielded ops a.tmps) = true then Oper.wp Try.prog o a w K Q else E :=
  step_append_ver hgd s x t e hu hinfo ho base v l hs hown g c u hx hc hok hmany hbase (by rw [hd]; exact h)
theorem last_pos {l : List Ver} (h : rightL l = true) : 0 ≤ (lastL l).pos := by
  rcases Nat.eq_zero_or_pos l.length with h0 | h0
  · rw [lastL, nth_ge l _ (by omega)]
    exact Int.le_refl _
  · have := right_pos ((rightL_iff l).1 h) (l.length - 1) (by omega)
    unfold lastL
    omega

/-! The law returns true, and writes nothing that was there. -/
set_option maxRecDepth 100000 in
set_option maxHeartbeats 16000000 in
theorem walk (a0 : Option Addr) (len0 cap0 : Nat) (z0 : List Ver) (a1 : Int) (a2 : ByteArray) (a3 : Bool) (w : World) (w0 : VRow w a0 len0 z0) (w1 : (Lit.int .i64 a1).wf = true) (w2 : a2.size ≤ maxLen) :
    Calls Try.prog 4 #[.slice a0 len0 cap0, .int .i64 a1, .string a2, .bool a3] w fun e w' => e = .returned (.bool true) ∧ Below w.heap.size w w' := by
  have hf25 := fld25
  have hwp := w1
  have hws := w2
  clear w1 w2
  have hshort : (z0.take 20).length ≤ 20 := by simp; omega
  have h1 := ours9_any a0 len0 cap0 z0 w w0
  generalize z0.take 20 = l at *
  go_enter Try.func4, Try.ntmps4
  go_wp2_with fail
  refine h1.mono ?_
  clear h1
  rintro e w1 ⟨u1, rfl, ho1, hb1⟩
  obtain ⟨ua, un, uc, rfl⟩ := ho1.isSlice
  have hB2 : Below w1.heap.size w1 (w1.alloc (.cells #[.slice ua un uc] 25)) := (Below.refl _ _).alloc (Nat.le_refl _) _
  have HB2 : Hid (Below w.heap.size w (w1.alloc (.cells #[.slice ua un uc] 25))) := hb1.trans (hB2.mono hb1.size)
  have HO2 : Hid (Ob (w1.alloc (.cells #[.slice ua un uc] 25)) (.slice ua un uc) l) := ho1.later hB2
  have HV2 : Hid (VarO (w1.alloc (.cells #[.slice ua un uc] 25)) w1.heap.size (.slice ua un uc)) := heap_alloc_new w1 _
  clear hB2 hb1 ho1 w0
  go_upto_region 2 with fail
  generalize w1.alloc (.cells #[.slice ua un uc] 25) = w2 at *
  generalize w1.heap.size = p9 at *
  have q2 := HV2.out.cell
  go_wp2_with fail
  refine (plain9_any _ l w2 HO2.out (by omega)).mono ?_
  rintro e w3 ⟨v3, rfl, ho3, hb3⟩
  obtain ⟨b3, c3, rfl, hr3, -⟩ := ho3.slice
  have HB3 : Hid (Below w2.heap.size w2 w3) := hb3
  have HW3 : Hid (VRow w3 b3 l.length l) := hr3
  clear ho3 hb3 q2
  go_wp2_with fail
  refine (ref_right_any9 b3 l.length c3 l w3 hr3).mono ?_
  clear hr3
  rintro e w4 ⟨rfl, hb4⟩
  have HB4 : Hid (Below w2.heap.size w2 w4) := HB3.out.trans (hb4.mono HB3.out.size)
  have HW4 : Hid (VRow w4 b3 l.length l) := HW3.out.later hb4
  clear hb4
  cases hr : rightL l
  · go_wp2_with fail
    refine (awake9_any w4).mono ?_
    rintro e w6 ⟨rfl, hb6⟩
    go_wp2
    go_ret
    exact ⟨rfl, HB2.out.trans ((HB4.out.trans (hb6.mono HB4.out.size)).mono HB2.out.size)⟩
  · have hri := right_rises hr
    have HP0 : Hid (0 ≤ (lastL l).pos) := last_pos hr
    have HNU : Hid ((lastL l).num < 18446744073709551616) := (HW4.out.okn _).num
    have hbx : Below w4.heap.size w4 (w4.alloc (.cells #[.int .i64 0, .int .u64 0, .string ⟨#[]⟩, .bool false] 43)) := (Below.refl _ _).alloc (Nat.le_refl _) _
    have HB5 : Hid (Below w2.heap.size w2 (w4.alloc (.cells #[.int .i64 0, .int .u64 0, .string ⟨#[]⟩, .bool false] 43))) := HB4.out.trans (hbx.mono HB4.out.size)
    have HW5 : Hid (VRow (w4.alloc (.cells #[.int .i64 0, .int .u64 0, .string ⟨#[]⟩, .bool false] 43)) b3 l.length l) := HW4.out.later hbx
    have HX5 : Hid (VarV (w4.alloc (.cells #[.int .i64 0, .int .u64 0, .string ⟨#[]⟩, .bool false] 43)) w4.heap.size 43 Ver.zero) := heap_alloc_new w4 _
    have HPL : Hid (w2.heap.size ≤ w4.heap.size) := HB4.out.size
    clear hbx
    go_upto_region 6 with fail
    generalize w4.alloc (.cells #[.int .i64 0, .int .u64 0, .string ⟨#[]⟩, .bool false] 43) = w5 at *
    generalize w4.heap.size = p11 at *
    by_cases hl0 : l.length = 0
    · have HX6 : Hid (VarV w5 p11 43 (lastL l)) := by
        have h := HX5.out
        show VarV w5 p11 43 (lastL l)
        rw [lastL, nth_ge l _ (by omega)]
        exact h
      have HB6 : Hid (Below w2.heap.size w2 w5) := HB5.out
      have HL0 : Hid (l.length = 0) := hl0
      generalize hlq : l.length = ll at *
      have e0 : ¬ ((ll : Int) > 0) := by omega
      clear hl0
      go_upto_region 8 with fail
      rename_i _
      clear HX5 HB5 e0
      generalize w5 = w6 at *
      have q6 := (HV2.out.later HB6.out).cell
      have HO6 : Hid (Ob w6 (.slice ua un uc) l) := HO2.out.later HB6.out
      by_cases hA : a1 ≤ (lastL l).pos ∨ may a2 a3 = false
      · have h6 := put_arg _ l a1 a2 a3 w6 HO6.out hr hws hA
        go_wp2_with fail
        refine h6.mono ?_
        clear h6 q6
        rintro e w7 ⟨rfl, hb7⟩
        have hbx : Below w7.heap.size w7 (w7.alloc (.cells #[.slice none 0 0] 25)) := (Below.refl _ _).alloc (Nat.le_refl _) _
        have HB8 : Hid (Below w2.heap.size w2 (w7.alloc (.cells #[.slice none 0 0] 25))) := HB6.out.trans ((hb7.trans (hbx.mono hb7.size)).mono HB6.out.size)
        have HX8 : Hid (VarV (w7.alloc (.cells #[.slice none 0 0] 25)) p11 43 (lastL l)) := (HX6.out.later hb7).later hbx
        have HP8 : Hid (VarO (w7.alloc (.cells #[.slice none 0 0] 25)) w7.heap.size (.slice none 0 0)) := heap_alloc_new w7 _
        clear hb7 hbx
        go_upto_region 9 with fail
        generalize w7.alloc (.cells #[.slice none 0 0] 25) = w8 at *
        generalize w7.heap.size = p12 at *
        have q8 := HP8.out.cell
        obtain ⟨x0, x1, x2, x3⟩ := HX8.out.cells
        generalize lastL l = v at *
        by_cases h1 : a1 < 1
        · go_wp2_with fail
          refine (awake9_any w8).mono ?_
          rintro e w9 ⟨rfl, hb9⟩
          go_wp2
          go_ret
          exact ⟨rfl, HB2.out.trans ((HB8.out.trans (hb9.mono HB8.out.size)).mono HB2.out.size)⟩
        · by_cases h2 : a1 ≤ v.pos
          · go_wp2_with fail
            refine (awake9_any w8).mono ?_
            rintro e w9 ⟨rfl, hb9⟩
            go_wp2
            go_ret
            exact ⟨rfl, HB2.out.trans ((HB8.out.trans (hb9.mono HB8.out.size)).mono HB2.out.size)⟩
          · have hmay : may a2 a3 = false := by rcases hA with h | h; (exact absurd h h2); exact h
            have h8 := ref_may_any a2 a3 w8 hws
            rw [hmay] at h8
            clear hA hmay
            go_wp2_with fail
            refine h8.mono ?_
            rintro e w9 ⟨rfl, hw⟩
            subst w9
            go_wp2_with fail
            refine (awake9_any w8).mono ?_
            rintro e w9 ⟨rfl, hb9⟩
            go_wp2
            go_ret
            exact ⟨rfl, HB2.out.trans ((HB8.out.trans (hb9.mono HB8.out.size)).mono HB2.out.size)⟩
      · have hp : (lastL l).pos < a1 := by have : ¬ a1 ≤ (lastL l).pos := fun h => hA (.inl h); omega
        have hmay : may a2 a3 = true := by cases h : may a2 a3; (exact absurd (.inr h) hA); rfl
        have h1 : ¬ a1 < 1 := by have := HP0.out; omega
        clear hA
        by_cases hfull : (lastL l).num = 18446744073709551615
        · have h6 := put_full _ l a1 a2 a3 w6 HO6.out hr hws hp hmay hfull
          have HFU : Hid ((lastL l).num = 18446744073709551615) := hfull
          clear hfull
          go_wp2_with fail
          refine h6.mono ?_
          clear h6 q6
          rintro e w7 ⟨rfl, hb7⟩
          have hbx : Below w7.heap.size w7 (w7.alloc (.cells #[.slice none 0 0] 25)) := (Below.refl _ _).alloc (Nat.le_refl _) _
          have HB8 : Hid (Below w2.heap.size w2 (w7.alloc (.cells #[.slice none 0 0] 25))) := HB6.out.trans ((hb7.trans (hbx.mono hb7.size)).mono HB6.out.size)
          have HX8 : Hid (VarV (w7.alloc (.cells #[.slice none 0 0] 25)) p11 43 (lastL l)) := (HX6.out.later hb7).later hbx
          have HP8 : Hid (VarO (w7.alloc (.cells #[.slice none 0 0] 25)) w7.heap.size (.slice none 0 0)) := heap_alloc_new w7 _
          clear hb7 hbx
          go_upto_region 9 with fail
          generalize w7.alloc (.cells #[.slice none 0 0] 25) = w8 at *
          generalize w7.heap.size = p12 at *
          have q8 := HP8.out.cell
          obtain ⟨x0, x1, x2, x3⟩ := HX8.out.cells
          generalize lastL l = v at *
          have e1 : ((v.num : Int) == 18446744073709551615) = true := by have := HFU.out; simp; omega
          have h2 : ¬ a1 ≤ v.pos := by omega
          have h8 := ref_may_any a2 a3 w8 hws
          rw [hmay] at h8
          clear hmay hp
          go_wp2_with fail
          refine h8.mono ?_
          rintro e w9 ⟨rfl, hw⟩
          subst w9
          go_wp2_with fail
          refine (awake9_any w8).mono ?_
          rintro e w9 ⟨rfl, hb9⟩
          go_wp2
          go_ret
          exact ⟨rfl, HB2.out.trans ((HB8.out.trans (hb9.mono HB8.out.size)).mono HB2.out.size)⟩
        · have hlt : (lastL l).num < 18446744073709551615 := by have := HNU.out; omega
          have h6 := put_ok _ l a1 a2 a3 w6 HO6.out hr hwp hws hp hmay hlt (by omega)
          have HRN : Hid (rightL (l ++ [⟨a1, (lastL l).num + 1, a2, a3⟩]) = true) := right_snoc hr _ rfl hlt hp (by show 1 ≤ a1; omega) hmay
          have HUN : Hid (undoL (l ++ [⟨a1, (lastL l).num + 1, a2, a3⟩]) (a1 - 1) = l) := undo_snoc hri ⟨a1, (lastL l).num + 1, a2, a3⟩ hp
          go_wp2_with fail
          refine h6.mono ?_
          clear h6 q6
          rintro e w7 ⟨u7, rfl, ho7, hb7⟩
          obtain ⟨t7, n7, k7, rfl⟩ := ho7.isSlice
          have hbx : Below w7.heap.size w7 (w7.alloc (.cells #[.slice t7 n7 k7] 25)) := (Below.refl _ _).alloc (Nat.le_refl _) _
          have HB8 : Hid (Below w2.heap.size w2 (w7.alloc (.cells #[.slice t7 n7 k7] 25))) := HB6.out.trans ((hb7.trans (hbx.mono hb7.size)).mono HB6.out.size)
          have HX8 : Hid (VarV (w7.alloc (.cells #[.slice t7 n7 k7] 25)) p11 43 (lastL l)) := (HX6.out.later hb7).later hbx
          have HP8 : Hid (VarO (w7.alloc (.cells #[.slice t7 n7 k7] 25)) w7.heap.size (.slice t7 n7 k7)) := heap_alloc_new w7 _
          have HQ8 : Hid (Ob (w7.alloc (.cells #[.slice t7 n7 k7] 25)) (.slice t7 n7 k7) (l ++ [⟨a1, (lastL l).num + 1, a2, a3⟩])) := ho7.later hbx
          clear hb7 hbx ho7
          go_upto_region 9 with fail
          generalize w7.alloc (.cells #[.slice t7 n7 k7] 25) = w8 at *
          generalize w7.heap.size = p12 at *
          have q8 := HP8.out.cell
          obtain ⟨x0, x1, x2, x3⟩ := HX8.out.cells
          have hlen2 : (l ++ [(⟨a1, (lastL l).num + 1, a2, a3⟩ : Ver)]).length ≤ 21 := by simp; omega
          have HOKV : Hid (Ver.ok ⟨a1, (lastL l).num + 1, a2, a3⟩) := ⟨hwp, by show (lastL l).num + 1 < 18446744073709551616; omega, hws⟩
          generalize lastL l = v at *
          have e1 : ((v.num : Int) == 18446744073709551615) = false := by simp; omega
          have h2 : ¬ a1 ≤ v.pos := by omega
          have h8 := ref_may_any a2 a3 w8 hws
          rw [hmay] at h8
          clear hmay hp
          go_wp2_with fail
          refine h8.mono ?_
          rintro e w9 ⟨rfl, hw⟩
          subst w9
          clear h8
          go_upto_region 13 with fail
          have HS : Hid (∀ W, Below w8.heap.size w8 W → W.cell? ⟨p9, 0, none⟩ = some (.slice ua un uc) ∧ W.cell? ⟨p12, 0, none⟩ = some (.slice t7 n7 k7) ∧ W.cell? ⟨p11, 1, none⟩ = some (.int .u64 (v.num : Nat))) := fun W hW => ⟨(HV2.out.later (HB8.out.trans (hW.mono HB8.out.size))).cell, (HP8.out.later hW).cell, (HX8.out.later hW).cells.2.1⟩
          have HOo : Hid (∀ W, Below w8.heap.size w8 W → Ob W (.slice ua un uc) l) := fun W hW => HO2.out.later (HB8.out.trans (hW.mono HB8.out.size))
          have HOp : Hid (∀ W, Below w8.heap.size w8 W → Ob W (.slice t7 n7 k7) (l ++ [⟨a1, v.num + 1, a2, a3⟩])) := fun W hW => HQ8.out.later hW
          have HFIN : Hid (∀ W, Below w8.heap.size w8 W → Below w.heap.size w W) := fun W hW => HB2.out.trans ((HB8.out.trans (hW.mono HB8.out.size)).mono HB2.out.size)
          have HB9 : Hid (Below w8.heap.size w8 w8.drew) := (Below.refl _ _).drew
          have hnv : v.num + 1 < 18446744073709551616 := by omega
          have hwrap : IntKind.u64.wrap ((v.num : Int) + 1) = (v.num : Int) + 1 := IntWalk.u64_in _ ⟨by omega, by omega⟩
          have hsub : IntKind.i64.wrap (a1 - 1) = a1 - 1 := by
            have hbi := bounds_i64 hwp
            exact IntWalk.i64_in _ ⟨by omega, by omega⟩
          clear q8 x0 x1 x2 x3 HX8 HP8 HQ8 hfull hlt e1 h2
          refine wp_region_noPanic ?_
          refine wp_region_held_drew (S := (fun w' => w'.cell? ⟨p9, 0, none⟩ = some (.slice ua un uc) ∧ w'.cell? ⟨p12, 0, none⟩ = some (.slice t7 n7 k7) ∧ w'.cell? ⟨p11, 1, none⟩ = some (.int .u64 (v.num : Nat)))) (by kernel_rfl) ?_ (fun hHeld => ?_)
          · exact HS.out _ HB9.out
          refine held_take (i := 0) (d := 80) (v := ?_) rfl rfl (by kernel_rfl) (by kernel_rfl) (by kernel_rfl) (fun _ _ _ h => h) (Or.inl ⟨by rfl, ?_⟩) hHeld ?_
          rotate_left
          · (intro w hSw; (try dsimp only at hSw); go_simp; all_goals (with_reducible rfl))
          try simp only [Act.put, List.setIfInBounds_toArray, List.set_cons_zero, List.set_cons_succ]
          refine held_take (i := 2) (d := 82) (v := ?_) rfl rfl (by kernel_rfl) (by kernel_rfl) (by kernel_rfl) (fun _ _ _ h => h) (Or.inl ⟨by rfl, ?_⟩) hHeld ?_
          rotate_left
          · (intro w hSw; (try dsimp only at hSw); go_simp; all_goals (with_reducible rfl))
          try simp only [Act.put, List.setIfInBounds_toArray, List.set_cons_zero, List.set_cons_succ]
          refine held_take (i := 3) (d := 83) (v := ?_) rfl rfl (by kernel_rfl) (by kernel_rfl) (by kernel_rfl) (fun _ _ _ h => h) (Or.inl ⟨by rfl, ?_⟩) hHeld ?_
          rotate_left
          · (intro w hSw; (try dsimp only at hSw); go_simp; all_goals (with_reducible rfl))
          try simp only [Act.put, List.setIfInBounds_toArray, List.set_cons_zero, List.set_cons_succ]
          refine held_take (i := 4) (d := 84) (v := ?_) rfl rfl (by kernel_rfl) (by kernel_rfl) (by kernel_rfl) (fun _ _ _ h => h) (Or.inl ⟨by rfl, ?_⟩) hHeld ?_
          rotate_left
          · (intro w hSw; (try dsimp only at hSw); go_simp; all_goals (with_reducible rfl))
          try simp only [Act.put, List.setIfInBounds_toArray, List.set_cons_zero, List.set_cons_succ]
          refine held_take (i := 5) (d := 85) (v := ?_) rfl rfl (by kernel_rfl) (by kernel_rfl) (by kernel_rfl) (fun _ _ _ h => h) (Or.inl ⟨by rfl, ?_⟩) hHeld ?_
          rotate_left
          · (intro w hSw; (try dsimp only at hSw); go_simp; all_goals (with_reducible rfl))
          try simp only [Act.put, List.setIfInBounds_toArray, List.set_cons_zero, List.set_cons_succ]
          refine held_take (i := 6) (d := 86) (v := ?_) rfl rfl (by kernel_rfl) (by kernel_rfl) (by kernel_rfl) (fun _ _ _ h => h) (Or.inl ⟨by rfl, ?_⟩) hHeld ?_
          rotate_left
          · (intro w hSw; (try dsimp only at hSw); go_simp; all_goals (with_reducible rfl))
          try simp only [Act.put, List.setIfInBounds_toArray, List.set_cons_zero, List.set_cons_succ]
          refine held_take (i := 7) (d := 87) (v := ?_) rfl rfl (by kernel_rfl) (by kernel_rfl) (by kernel_rfl) (fun _ _ _ h => h) (Or.inl ⟨by rfl, ?_⟩) hHeld ?_
          rotate_left
          · (intro w hSw; (try dsimp only at hSw); go_simp; all_goals (with_reducible rfl))
          try simp only [Act.put, List.setIfInBounds_toArray, List.set_cons_zero, List.set_cons_succ]
          refine held_take (i := 8) (d := 88) (v := ?_) rfl rfl (by kernel_rfl) (by kernel_rfl) (by kernel_rfl) (fun _ _ _ h => h) (Or.inl ⟨by rfl, ?_⟩) hHeld ?_
          rotate_left
          · (intro w hSw; (try dsimp only at hSw); go_simp; all_goals (with_reducible rfl))
          try simp only [Act.put, List.setIfInBounds_toArray, List.set_cons_zero, List.set_cons_succ]
          refine wpAnyH_ready (rs := [1, 9]) (by kernel_rfl) (by simp) ?_
          refine AllReadyH.cons rfl (fun K hK => ?_) (AllReadyH.cons rfl (fun K hK => ?_) AllReadyH.nil)
          · go_simp
            refine (plain9_any _ l w8.drew (HOo.out _ HB9.out) (by omega)).mono ?_
            rintro e w10 ⟨v10, rfl, ho10, hb10⟩
            obtain ⟨t10, n10, k10, rfl⟩ := ho10.isSlice
            have HB10 : Hid (Below w8.heap.size w8 w10) := HB9.out.trans (hb10.mono HB9.out.size)
            have HB11 : Hid (Below w8.heap.size w8 (w10.alloc (.cells #[.int .i64 a1, .int .u64 ((v.num : Int) + 1), .string a2, .bool a3] 43))) := HB10.out.alloc HB10.out.size _
            have HO11 : Hid (VOwn (w10.alloc (.cells #[.int .i64 a1, .int .u64 ((v.num : Int) + 1), .string a2, .bool a3] 43)) w8.heap.size 43 (.slice t10 n10 k10) l) := VOwn.later ho10 ((Below.refl _ _).alloc (Nat.le_refl _) _)
            have HV11 : Hid (VarV (w10.alloc (.cells #[.int .i64 a1, .int .u64 ((v.num : Int) + 1), .string a2, .bool a3] 43)) w10.heap.size 43 (⟨a1, v.num + 1, a2, a3⟩ : Ver)) := heap_alloc_new w10 _
            have HBS : Hid (w8.heap.size ≤ (w10.alloc (.cells #[.int .i64 a1, .int .u64 ((v.num : Int) + 1), .string a2, .bool a3] 43)).heap.size) := HB11.out.size
            have HBL : Hid (w8.heap.size ≤ w8.heap.size) := Nat.le_refl _
            clear hb10 ho10
            go_wp2_with fail
            refine hK.out _ _ ?_ (fun hHeld => ?_)
            · exact HS.out _ HB10.out
            clear hK K
            try simp only [Act.put, List.setIfInBounds_toArray, List.set_cons_zero, List.set_cons_succ]
            refine wpAnyH_ready (rs := [9]) (by kernel_rfl) (by simp) ?_
            refine AllReadyH.cons rfl (fun K hK => ?_) AllReadyH.nil
            go_simp
            refine hK.out _ _ ?_ (fun hHeld => ?_)
            · exact HS.out _ HB11.out
            clear hK K
            try simp only [Act.put, List.setIfInBounds_toArray, List.set_cons_zero, List.set_cons_succ]
            generalize w10.alloc (.cells #[.int .i64 a1, .int .u64 ((v.num : Int) + 1), .string a2, .bool a3] 43) = w11 at *
            refine wpAnyH_ready (rs := [10]) (by kernel_rfl) (by simp) ?_
            refine AllReadyH.cons rfl (fun K hK => ?_) AllReadyH.nil
            refine step_append_at (d := 90) rfl (by rfl) _ _ 22 43 Try.underlying22 Try.info_43 (by rfl) w8.heap.size _ l (by rfl) HO11.out w10.heap.size _ (⟨a1, v.num + 1, a2, a3⟩ : Ver) (by rfl) HV11.out HOKV.out (by omega) HBS.out ?_
            intro v12 w12 ho12 hb12
            obtain ⟨b12, n12, c12, rfl, hr12⟩ := own_row ho12
            have HB12 : Hid (Below w8.heap.size w8 w12) := HB11.out.trans (hb12.mono HBL.out)
            have HR12 : Hid (VRow w12 b12 n12 (l ++ [(⟨a1, v.num + 1, a2, a3⟩ : Ver)])) := hr12
            clear ho12 hb12 hr12
            refine hK.out _ _ ?_ (fun hHeld => ?_)
            · exact HS.out _ HB12.out
            clear hK K
            try simp only [Act.put, List.setIfInBounds_toArray, List.set_cons_zero, List.set_cons_succ]
            refine held_take (i := 11) (d := 14) (v := ?_) rfl rfl (by kernel_rfl) (by kernel_rfl) (by kernel_rfl) (fun _ _ _ h => h) (Or.inl ⟨by rfl, ?_⟩) hHeld ?_
            rotate_left
            · (intro w hSw; (try dsimp only at hSw); go_simp; all_goals (with_reducible rfl))
            try simp only [Act.put, List.setIfInBounds_toArray, List.set_cons_zero, List.set_cons_succ]
            refine wpAnyH_done (by kernel_rfl) ?_ _
            refine NoPanic.normal ?_
            have HL4 : Hid (∀ W, Below w8.heap.size w8 W → Calls Try.prog 13 #[.agg #[.slice t7 n7 k7]] W fun e w' => ∃ b n c, e = .returned (.slice b n c) ∧ VRow w' b n (l ++ [(⟨a1, v.num + 1, a2, a3⟩ : Ver)]) ∧ Below W.heap.size W w') := by
              intro W hW
              refine (plain9_any _ (l ++ [(⟨a1, v.num + 1, a2, a3⟩ : Ver)]) W (HOp.out W hW) (by omega)).mono ?_
              rintro e w' ⟨v, rfl, ho, hb⟩
              obtain ⟨b, n, c, rfl, hr⟩ := own_row ho
              exact ⟨b, n, c, rfl, hr, hb⟩
            have HL6 : Hid (∀ W b n c, VRow W b n (l ++ [(⟨a1, v.num + 1, a2, a3⟩ : Ver)]) → Below w12.heap.size w12 W → Calls Try.prog 23 #[.slice b n c, .slice b12 n12 c12] W fun e w' => e = .returned (.bool true) ∧ ∃ q, w' = W.drewN q) := by
              intro W b n c h1 h2
              have := ref_same_any b b12 _ _ c c12 (l ++ [(⟨a1, v.num + 1, a2, a3⟩ : Ver)]) (l ++ [(⟨a1, v.num + 1, a2, a3⟩ : Ver)]) W h1 (HR12.out.later h2)
              rwa [sameB_self] at this
            have HL12 : Hid (∀ W, Below w8.heap.size w8 W → Calls Try.prog 20 #[.agg #[.slice t7 n7 k7], .int .i64 (a1 - 1)] W fun e w' => ∃ a n c, e = .returned (.agg #[.slice a n c]) ∧ Ob w' (.slice a n c) l ∧ Below W.heap.size W w') := by
              intro W hW
              refine (undo_right _ (l ++ [(⟨a1, v.num + 1, a2, a3⟩ : Ver)]) (a1 - 1) W (HOp.out W hW) HRN.out).mono ?_
              rw [HUN.out]
              rintro e w' ⟨u, rfl, ho, hb⟩
              obtain ⟨a, n, c, rfl⟩ := ho.isSlice
              exact ⟨a, n, c, rfl, ho, hb⟩
            have HL14 : Hid (∀ W a n c, Below w8.heap.size w8 W → Ob W (.slice a n c) l → Calls Try.prog 24 #[.agg #[.slice a n c], .agg #[.slice ua un uc]] W fun e w' => e = .returned (.bool true) ∧ Below W.heap.size W w') := by
              intro W a n c hW ho
              have := same_any _ _ l l W ho (HOo.out W hW)
              rwa [sameB_self] at this
            clear HR12 HOp HOo HRN HUN
            go_wp2
            have HS2 : Hid (∀ W, Below w8.heap.size w8 W → W.cell? ⟨p9, 0, none⟩ = some (.slice ua un uc) ∧ W.cell? ⟨p12, 0, none⟩ = some (.slice t7 n7 k7)) := fun W hW => ⟨(HS.out W hW).1, (HS.out W hW).2.1⟩
            have HB13 : Hid (Below w8.heap.size w8 w12.drew) := HB12.out.drew
            have HD13 : Hid (Below w12.heap.size w12 w12.drew) := (Below.refl _ _).drew
            clear HS
            refine wp_region_noPanic ?_
            refine wp_region_held_drew (S := (fun w' => w'.cell? ⟨p9, 0, none⟩ = some (.slice ua un uc) ∧ w'.cell? ⟨p12, 0, none⟩ = some (.slice t7 n7 k7))) (by kernel_rfl) ?_ (fun hHeld => ?_)
            · exact HS2.out _ HB13.out
            refine held_take (i := 0) (d := 91) (v := ?_) rfl rfl (by kernel_rfl) (by kernel_rfl) (by kernel_rfl) (fun _ _ _ h => h) (Or.inl ⟨by rfl, ?_⟩) hHeld ?_
            rotate_left
            · (intro w hSw; (try dsimp only at hSw); go_simp; all_goals (with_reducible rfl))
            try simp only [Act.put, List.setIfInBounds_toArray, List.set_cons_zero, List.set_cons_succ]
            refine held_take (i := 1) (d := 92) (v := ?_) rfl rfl (by kernel_rfl) (by kernel_rfl) (by kernel_rfl) (fun _ _ _ h => h) (Or.inl ⟨by rfl, ?_⟩) hHeld ?_
            rotate_left
            · (intro w hSw; (try dsimp only at hSw); go_simp; all_goals (with_reducible rfl))
            try simp only [Act.put, List.setIfInBounds_toArray, List.set_cons_zero, List.set_cons_succ]
            refine held_take (i := 2) (d := 93) (v := ?_) rfl rfl (by kernel_rfl) (by kernel_rfl) (by kernel_rfl) (fun _ _ _ h => h) (Or.inl ⟨by rfl, ?_⟩) hHeld ?_
            rotate_left
            · (intro w hSw; (try dsimp only at hSw); go_simp; all_goals (with_reducible rfl))
            try simp only [Act.put, List.setIfInBounds_toArray, List.set_cons_zero, List.set_cons_succ]
            refine held_take (i := 3) (d := 94) (v := ?_) rfl rfl (by kernel_rfl) (by kernel_rfl) (by kernel_rfl) (fun _ _ _ h => h) (Or.inl ⟨by rfl, ?_⟩) hHeld ?_
            rotate_left
            · (intro w hSw; (try dsimp only at hSw); go_simp; all_goals (with_reducible rfl))
            try simp only [Act.put, List.setIfInBounds_toArray, List.set_cons_zero, List.set_cons_succ]
            refine held_take (i := 5) (d := 96) (v := ?_) rfl rfl (by kernel_rfl) (by kernel_rfl) (by kernel_rfl) (fun _ _ _ h => h) (Or.inl ⟨by rfl, ?_⟩) hHeld ?_
            rotate_left
            · (intro w hSw; (try dsimp only at hSw); go_simp; all_goals (with_reducible rfl))
            try simp only [Act.put, List.setIfInBounds_toArray, List.set_cons_zero, List.set_cons_succ]
            refine wpAnyH_ready (rs := [4]) (by kernel_rfl) (by simp) ?_
            refine AllReadyH.cons rfl (fun K hK => ?_) AllReadyH.nil
            go_simp
            refine (HL4.out _ HB13.out).mono ?_
            clear HL4
            rintro e w14 ⟨b14, n14, c14, rfl, hr14, hb14⟩
            have HB14 : Hid (Below w8.heap.size w8 w14) := HB13.out.trans (hb14.mono HB13.out.size)
            have h14 := HL6.out w14 b14 n14 c14 hr14 (HD13.out.trans (hb14.mono HD13.out.size))
            clear hb14 hr14 HL6
            go_wp2_with fail
            refine hK.out _ _ ?_ (fun hHeld => ?_)
            · exact HS2.out _ HB14.out
            clear hK K
            try simp only [Act.put, List.setIfInBounds_toArray, List.set_cons_zero, List.set_cons_succ]
            refine wpAnyH_ready (rs := [6]) (by kernel_rfl) (by simp) ?_
            refine AllReadyH.cons rfl (fun K hK => ?_) AllReadyH.nil
            go_simp
            refine h14.mono ?_
            clear h14
            rintro e w15' ⟨rfl, qq, rfl⟩
            have HB15 : Hid (Below w8.heap.size w8 (w14.drewN qq)) := below_drewN HB14.out _
            go_wp2_with fail
            refine hK.out _ _ ?_ (fun hHeld => ?_)
            · exact HS2.out _ HB15.out
            clear hK K
            try simp only [Act.put, List.setIfInBounds_toArray, List.set_cons_zero, List.set_cons_succ]
            generalize w14.drewN qq = w15 at *
            refine held_take (i := 7) (d := 98) (v := ?_) rfl rfl (by kernel_rfl) (by kernel_rfl) (by kernel_rfl) (fun _ _ _ h => h) (Or.inl ⟨by rfl, ?_⟩) hHeld ?_
            rotate_left
            · (intro w hSw; (try dsimp only at hSw); go_simp; all_goals (with_reducible rfl))
            try simp only [Act.put, List.setIfInBounds_toArray, List.set_cons_zero, List.set_cons_succ]
            refine held_take (i := 8) (d := 99) (v := ?_) rfl rfl (by kernel_rfl) (by kernel_rfl) (by kernel_rfl) (fun _ _ _ h => h) (Or.inl ⟨by rfl, ?_⟩) hHeld ?_
            rotate_left
            · (intro w hSw; (try dsimp only at hSw); go_simp; all_goals (with_reducible rfl))
            try simp only [Act.put, List.setIfInBounds_toArray, List.set_cons_zero, List.set_cons_succ]
            refine held_take (i := 9) (d := 100) (v := ?_) rfl rfl (by kernel_rfl) (by kernel_rfl) (by kernel_rfl) (fun _ _ _ h => h) (Or.inl ⟨by rfl, ?_⟩) hHeld ?_
            rotate_left
            · (intro w hSw; (try dsimp only at hSw); go_simp; all_goals (with_reducible rfl))
            try simp only [Act.put, List.setIfInBounds_toArray, List.set_cons_zero, List.set_cons_succ]
            refine held_take (i := 10) (d := 101) (v := ?_) rfl rfl (by kernel_rfl) (by kernel_rfl) (by kernel_rfl) (fun _ _ _ h => h) (Or.inl ⟨by rfl, ?_⟩) hHeld ?_
            rotate_left
            · (intro w hSw; (try dsimp only at hSw); go_simp; all_goals (with_reducible rfl))
            try simp only [Act.put, List.setIfInBounds_toArray, List.set_cons_zero, List.set_cons_succ]
            refine held_take (i := 11) (d := 102) (v := ?_) rfl rfl (by kernel_rfl) (by kernel_rfl) (by kernel_rfl) (fun _ _ _ h => h) (Or.inl ⟨by rfl, ?_⟩) hHeld ?_
            rotate_left
            · (intro w hSw; (try dsimp only at hSw); go_simp; all_goals (with_reducible rfl))
            try simp only [Act.put, List.setIfInBounds_toArray, List.set_cons_zero, List.set_cons_succ]
            refine held_take (i := 13) (d := 104) (v := ?_) rfl rfl (by kernel_rfl) (by kernel_rfl) (by kernel_rfl) (fun _ _ _ h => h) (Or.inl ⟨by rfl, ?_⟩) hHeld ?_
            rotate_left
            · (intro w hSw; (try dsimp only at hSw); go_simp; all_goals (with_reducible rfl))
            try simp only [Act.put, List.setIfInBounds_toArray, List.set_cons_zero, List.set_cons_succ]
            refine wpAnyH_ready (rs := [12]) (by kernel_rfl) (by simp) ?_
            refine AllReadyH.cons rfl (fun K hK => ?_) AllReadyH.nil
            go_simp
            refine (HL12.out _ HB15.out).mono ?_
            clear HL12
            rintro e w16 ⟨t16, n16, k16, rfl, ho16, hb16⟩
            have HB16 : Hid (Below w8.heap.size w8 w16) := HB15.out.trans (hb16.mono HB15.out.size)
            have h16 := HL14.out w16 t16 n16 k16 HB16.out ho16
            clear hb16 ho16 HL14
            go_wp2_with fail
            refine hK.out _ _ ?_ (fun hHeld => ?_)
            · exact HS2.out _ HB16.out
            clear hK K
            try simp only [Act.put, List.setIfInBounds_toArray, List.set_cons_zero, List.set_cons_succ]
            refine wpAnyH_ready (rs := [14]) (by kernel_rfl) (by simp) ?_
            refine AllReadyH.cons rfl (fun K hK => ?_) AllReadyH.nil
            go_simp
            refine h16.mono ?_
            clear h16
            rintro e w17 ⟨rfl, hb17⟩
            have HB17 : Hid (Below w8.heap.size w8 w17) := HB16.out.trans (hb17.mono HB16.out.size)
            clear hb17
            go_wp2_with fail
            refine hK.out _ _ ?_ (fun hHeld => ?_)
            · exact HS2.out _ HB17.out
            clear hK K
            try simp only [Act.put, List.setIfInBounds_toArray, List.set_cons_zero, List.set_cons_succ]
            refine held_take (i := 15) (d := 106) (v := ?_) rfl rfl (by kernel_rfl) (by kernel_rfl) (by kernel_rfl) (fun _ _ _ h => h) (Or.inl ⟨by rfl, ?_⟩) hHeld ?_
            rotate_left
            · (intro w hSw; (try dsimp only at hSw); go_simp; all_goals (with_reducible rfl))
            try simp only [Act.put, List.setIfInBounds_toArray, List.set_cons_zero, List.set_cons_succ]
            refine held_take (i := 16) (d := 107) (v := ?_) rfl rfl (by kernel_rfl) (by kernel_rfl) (by kernel_rfl) (fun _ _ _ h => h) (Or.inl ⟨by rfl, ?_⟩) hHeld ?_
            rotate_left
            · (intro w hSw; (try dsimp only at hSw); go_simp; all_goals (with_reducible rfl))
            try simp only [Act.put, List.setIfInBounds_toArray, List.set_cons_zero, List.set_cons_succ]
            refine wpAnyH_ready (rs := [17]) (by kernel_rfl) (by simp) ?_
            refine AllReadyH.cons rfl (fun K hK => ?_) AllReadyH.nil
            go_simp
            refine (awake9_any w17).mono ?_
            rintro e w18 ⟨rfl, hb18⟩
            have HB18 : Hid (Below w8.heap.size w8 w18) := HB17.out.trans (hb18.mono HB17.out.size)
            clear hb18
            go_wp2_with fail
            refine hK.out _ _ ?_ (fun hHeld => ?_)
            · exact HS2.out _ HB18.out
            clear hK K
            try simp only [Act.put, List.setIfInBounds_toArray, List.set_cons_zero, List.set_cons_succ]
            refine held_take (i := 18) (d := 109) (v := ?_) rfl rfl (by kernel_rfl) (by kernel_rfl) (by kernel_rfl) (fun _ _ _ h => h) (Or.inl ⟨by rfl, ?_⟩) hHeld ?_
            rotate_left
            · (intro w hSw; (try dsimp only at hSw); go_simp; all_goals (with_reducible rfl))
            try simp only [Act.put, List.setIfInBounds_toArray, List.set_cons_zero, List.set_cons_succ]
            refine held_take (i := 19) (d := 8) (v := ?_) rfl rfl (by kernel_rfl) (by kernel_rfl) (by kernel_rfl) (fun _ _ _ h => h) (Or.inl ⟨by rfl, ?_⟩) hHeld ?_
            rotate_left
            · (intro w hSw; (try dsimp only at hSw); go_simp; all_goals (with_reducible rfl))
            try simp only [Act.put, List.setIfInBounds_toArray, List.set_cons_zero, List.set_cons_succ]
            refine wpAnyH_done (by kernel_rfl) ?_ _
            refine NoPanic.normal ?_
            go_wp2
            go_ret
            exact ⟨rfl, HFIN.out _ HB18.out⟩
          · have HB10 : Hid (Below w8.heap.size w8 (w8.alloc (.cells #[.int .i64 a1, .int .u64 ((v.num : Int) + 1), .string a2, .bool a3] 43)).drew) := ((Below.refl _ _).alloc (Nat.le_refl _) _).drew
            have HV10 : Hid (VarV (w8.alloc (.cells #[.int .i64 a1, .int .u64 ((v.num : Int) + 1), .string a2, .bool a3] 43)).drew w8.heap.size 43 (⟨a1, v.num + 1, a2, a3⟩ : Ver)) := heap_alloc_new w8 _
            go_simp
            refine hK.out _ _ ?_ (fun hHeld => ?_)
            · exact HS.out _ HB10.out
            clear hK K
            try simp only [Act.put, List.setIfInBounds_toArray, List.set_cons_zero, List.set_cons_succ]
            generalize (w8.alloc (.cells #[.int .i64 a1, .int .u64 ((v.num : Int) + 1), .string a2, .bool a3] 43)).drew = w10 at *
            refine wpAnyH_ready (rs := [1]) (by kernel_rfl) (by simp) ?_
            refine AllReadyH.cons rfl (fun K hK => ?_) AllReadyH.nil
            go_simp
            refine (plain9_any _ l w10 (HOo.out _ HB10.out) (by omega)).mono ?_
            rintro e w11 ⟨v11, rfl, ho11, hb11⟩
            obtain ⟨t11, n11, k11, rfl⟩ := ho11.isSlice
            have HB11 : Hid (Below w8.heap.size w8 w11) := HB10.out.trans (hb11.mono HB10.out.size)
            have HO11 : Hid (VOwn w11 w10.heap.size 43 (.slice t11 n11 k11) l) := ho11
            have HV11 : Hid (VarV w11 w8.heap.size 43 (⟨a1, v.num + 1, a2, a3⟩ : Ver)) := HV10.out.later hb11
            have HBS : Hid (w10.heap.size ≤ w11.heap.size) := hb11.size
            have HBL : Hid (w8.heap.size ≤ w10.heap.size) := HB10.out.size
            clear hb11 ho11
            go_wp2_with fail
            refine hK.out _ _ ?_ (fun hHeld => ?_)
            · exact HS.out _ HB11.out
            clear hK K
            try simp only [Act.put, List.setIfInBounds_toArray, List.set_cons_zero, List.set_cons_succ]
            refine wpAnyH_ready (rs := [10]) (by kernel_rfl) (by simp) ?_
            refine AllReadyH.cons rfl (fun K hK => ?_) AllReadyH.nil
            refine step_append_at (d := 90) rfl (by rfl) _ _ 22 43 Try.underlying22 Try.info_43 (by rfl) w10.heap.size _ l (by rfl) HO11.out w8.heap.size _ (⟨a1, v.num + 1, a2, a3⟩ : Ver) (by rfl) HV11.out HOKV.out (by omega) HBS.out ?_
            intro v12 w12 ho12 hb12
            obtain ⟨b12, n12, c12, rfl, hr12⟩ := own_row ho12
            have HB12 : Hid (Below w8.heap.size w8 w12) := HB11.out.trans (hb12.mono HBL.out)
            have HR12 : Hid (VRow w12 b12 n12 (l ++ [(⟨a1, v.num + 1, a2, a3⟩ : Ver)])) := hr12
            clear ho12 hb12 hr12
            refine hK.out _ _ ?_ (fun hHeld => ?_)
            · exact HS.out _ HB12.out
            clear hK K
            try simp only [Act.put, List.setIfInBounds_toArray, List.set_cons_zero, List.set_cons_succ]
            refine held_take (i := 11) (d := 14) (v := ?_) rfl rfl (by kernel_rfl) (by kernel_rfl) (by kernel_rfl) (fun _ _ _ h => h) (Or.inl ⟨by rfl, ?_⟩) hHeld ?_
            rotate_left
            · (intro w hSw; (try dsimp only at hSw); go_simp; all_goals (with_reducible rfl))
            try simp only [Act.put, List.setIfInBounds_toArray, List.set_cons_zero, List.set_cons_succ]
            refine wpAnyH_done (by kernel_rfl) ?_ _
            refine NoPanic.normal ?_
            have HL4 : Hid (∀ W, Below w8.heap.size w8 W → Calls Try.prog 13 #[.agg #[.slice t7 n7 k7]] W fun e w' => ∃ b n c, e = .returned (.slice b n c) ∧ VRow w' b n (l ++ [(⟨a1, v.num + 1, a2, a3⟩ : Ver)]) ∧ Below W.heap.size W w') := by
              intro W hW
              refine (plain9_any _ (l ++ [(⟨a1, v.num + 1, a2, a3⟩ : Ver)]) W (HOp.out W hW) (by omega)).mono ?_
              rintro e w' ⟨v, rfl, ho, hb⟩
              obtain ⟨b, n, c, rfl, hr⟩ := own_row ho
              exact ⟨b, n, c, rfl, hr, hb⟩
            have HL6 : Hid (∀ W b n c, VRow W b n (l ++ [(⟨a1, v.num + 1, a2, a3⟩ : Ver)]) → Below w12.heap.size w12 W → Calls Try.prog 23 #[.slice b n c, .slice b12 n12 c12] W fun e w' => e = .returned (.bool true) ∧ ∃ q, w' = W.drewN q) := by
              intro W b n c h1 h2
              have := ref_same_any b b12 _ _ c c12 (l ++ [(⟨a1, v.num + 1, a2, a3⟩ : Ver)]) (l ++ [(⟨a1, v.num + 1, a2, a3⟩ : Ver)]) W h1 (HR12.out.later h2)
              rwa [sameB_self] at this
            have HL12 : Hid (∀ W, Below w8.heap.size w8 W → Calls Try.prog 20 #[.agg #[.slice t7 n7 k7], .int .i64 (a1 - 1)] W fun e w' => ∃ a n c, e = .returned (.agg #[.slice a n c]) ∧ Ob w' (.slice a n c) l ∧ Below W.heap.size W w') := by
              intro W hW
              refine (undo_right _ (l ++ [(⟨a1, v.num + 1, a2, a3⟩ : Ver)]) (a1 - 1) W (HOp.out W hW) HRN.out).mono ?_
              rw [HUN.out]
              rintro e w' ⟨u, rfl, ho, hb⟩
              obtain ⟨a, n, c, rfl⟩ := ho.isSlice
              exact ⟨a, n, c, rfl, ho, hb⟩
            have HL14 : Hid (∀ W a n c, Below w8.heap.size w8 W → Ob W (.slice a n c) l → Calls Try.prog 24 #[.agg #[.slice a n c], .agg #[.slice ua un uc]] W fun e w' => e = .returned (.bool true) ∧ Below W.heap.size W w') := by
              intro W a n c hW ho
              have := same_any _ _ l l W ho (HOo.out W hW)
              rwa [sameB_self] at this
            clear HR12 HOp HOo HRN HUN
            go_wp2
            have HS2 : Hid (∀ W, Below w8.heap.size w8 W → W.cell? ⟨p9, 0, none⟩ = some (.slice ua un uc) ∧ W.cell? ⟨p12, 0, none⟩ = some (.slice t7 n7 k7)) := fun W hW => ⟨(HS.out W hW).1, (HS.out W hW).2.1⟩
            have HB13 : Hid (Below w8.heap.size w8 w12.drew) := HB12.out.drew
            have HD13 : Hid (Below w12.heap.size w12 w12.drew) := (Below.refl _ _).drew
            clear HS
            refine wp_region_noPanic ?_
            refine wp_region_held_drew (S := (fun w' => w'.cell? ⟨p9, 0, none⟩ = some (.slice ua un uc) ∧ w'.cell? ⟨p12, 0, none⟩ = some (.slice t7 n7 k7))) (by kernel_rfl) ?_ (fun hHeld => ?_)
            · exact HS2.out _ HB13.out
            refine held_take (i := 0) (d := 91) (v := ?_) rfl rfl (by kernel_rfl) (by kernel_rfl) (by kernel_rfl) (fun _ _ _ h => h) (Or.inl ⟨by rfl, ?_⟩) hHeld ?_
            rotate_left
            · (intro w hSw; (try dsimp only at hSw); go_simp; all_goals (with_reducible rfl))
            try simp only [Act.put, List.setIfInBounds_toArray, List.set_cons_zero, List.set_cons_succ]
            refine held_take (i := 1) (d := 92) (v := ?_) rfl rfl (by kernel_rfl) (by kernel_rfl) (by kernel_rfl) (fun _ _ _ h => h) (Or.inl ⟨by rfl, ?_⟩) hHeld ?_
            rotate_left
            · (intro w hSw; (try dsimp only at hSw); go_simp; all_goals (with_reducible rfl))
            try simp only [Act.put, List.setIfInBounds_toArray, List.set_cons_zero, List.set_cons_succ]
            refine held_take (i := 2) (d := 93) (v := ?_) rfl rfl (by kernel_rfl) (by kernel_rfl) (by kernel_rfl) (fun _ _ _ h => h) (Or.inl ⟨by rfl, ?_⟩) hHeld ?_
            rotate_left
            · (intro w hSw; (try dsimp only at hSw); go_simp; all_goals (with_reducible rfl))
            try simp only [Act.put, List.setIfInBounds_toArray, List.set_cons_zero, List.set_cons_succ]
            refine held_take (i := 3) (d := 94) (v := ?_) rfl rfl (by kernel_rfl) (by kernel_rfl) (by kernel_rfl) (fun _ _ _ h => h) (Or.inl ⟨by rfl, ?_⟩) hHeld ?_
            rotate_left
            · (intro w hSw; (try dsimp only at hSw); go_simp; all_goals (with_reducible rfl))
            try simp only [Act.put, List.setIfInBounds_toArray, List.set_cons_zero, List.set_cons_succ]
            refine held_take (i := 5) (d := 96) (v := ?_) rfl rfl (by kernel_rfl) (by kernel_rfl) (by kernel_rfl) (fun _ _ _ h => h) (Or.inl ⟨by rfl, ?_⟩) hHeld ?_
            rotate_left
            · (intro w hSw; (try dsimp only at hSw); go_simp; all_goals (with_reducible rfl))
            try simp only [Act.put, List.setIfInBounds_toArray, List.set_cons_zero, List.set_cons_succ]
            refine wpAnyH_ready (rs := [4]) (by kernel_rfl) (by simp) ?_
            refine AllReadyH.cons rfl (fun K hK => ?_) AllReadyH.nil
            go_simp
            refine (HL4.out _ HB13.out).mono ?_
            clear HL4
            rintro e w14 ⟨b14, n14, c14, rfl, hr14, hb14⟩
            have HB14 : Hid (Below w8.heap.size w8 w14) := HB13.out.trans (hb14.mono HB13.out.size)
            have h14 := HL6.out w14 b14 n14 c14 hr14 (HD13.out.trans (hb14.mono HD13.out.size))
            clear hb14 hr14 HL6
            go_wp2_with fail
            refine hK.out _ _ ?_ (fun hHeld => ?_)
            · exact HS2.out _ HB14.out
            clear hK K
            try simp only [Act.put, List.setIfInBounds_toArray, List.set_cons_zero, List.set_cons_succ]
            refine wpAnyH_ready (rs := [6]) (by kernel_rfl) (by simp) ?_
            refine AllReadyH.cons rfl (fun K hK => ?_) AllReadyH.nil
            go_simp
            refine h14.mono ?_
            clear h14
            rintro e w15' ⟨rfl, qq, rfl⟩
            have HB15 : Hid (Below w8.heap.size w8 (w14.drewN qq)) := below_drewN HB14.out _
            go_wp2_with fail
            refine hK.out _ _ ?_ (fun hHeld => ?_)
            · exact HS2.out _ HB15.out
            clear hK K
            try simp only [Act.put, List.setIfInBounds_toArray, List.set_cons_zero, List.set_cons_succ]
            generalize w14.drewN qq = w15 at *
            refine held_take (i := 7) (d := 98) (v := ?_) rfl rfl (by kernel_rfl) (by kernel_rfl) (by kernel_rfl) (fun _ _ _ h => h) (Or.inl ⟨by rfl, ?_⟩) hHeld ?_
            rotate_left
            · (intro w hSw; (try dsimp only at hSw); go_simp; all_goals (with_reducible rfl))
            try simp only [Act.put, List.setIfInBounds_toArray, List.set_cons_zero, List.set_cons_succ]
            refine held_take (i := 8) (d := 99) (v := ?_) rfl rfl (by kernel_rfl) (by kernel_rfl) (by kernel_rfl) (fun _ _ _ h => h) (Or.inl ⟨by rfl, ?_⟩) hHeld ?_
            rotate_left
            · (intro w hSw; (try dsimp only at hSw); go_simp; all_goals (with_reducible rfl))
            try simp only [Act.put, List.setIfInBounds_toArray, List.set_cons_zero, List.set_cons_succ]
            refine held_take (i := 9) (d := 100) (v := ?_) rfl rfl (by kernel_rfl) (by kernel_rfl) (by kernel_rfl) (fun _ _ _ h => h) (Or.inl ⟨by rfl, ?_⟩) hHeld ?_
            rotate_left
            · (intro w hSw; (try dsimp only at hSw); go_simp; all_goals (with_reducible rfl))
            try simp only [Act.put, List.setIfInBounds_toArray, List.set_cons_zero, List.set_cons_succ]
            refine held_take (i := 10) (d := 101) (v := ?_) rfl rfl (by kernel_rfl) (by kernel_rfl) (by kernel_rfl) (fun _ _ _ h => h) (Or.inl ⟨by rfl, ?_⟩) hHeld ?_
            rotate_left
            · (intro w hSw; (try dsimp only at hSw); go_simp; all_goals (with_reducible rfl))
            try simp only [Act.put, List.setIfInBounds_toArray, List.set_cons_zero, List.set_cons_succ]
            refine held_take (i := 11) (d := 102) (v := ?_) rfl rfl (by kernel_rfl) (by kernel_rfl) (by kernel_rfl) (fun _ _ _ h => h) (Or.inl ⟨by rfl, ?_⟩) hHeld ?_
            rotate_left
            · (intro w hSw; (try dsimp only at hSw); go_simp; all_goals (with_reducible rfl))
            try simp only [Act.put, List.setIfInBounds_toArray, List.set_cons_zero, List.set_cons_succ]
            refine held_take (i := 13) (d := 104) (v := ?_) rfl rfl (by kernel_rfl) (by kernel_rfl) (by kernel_rfl) (fun _ _ _ h => h) (Or.inl ⟨by rfl, ?_⟩) hHeld ?_
            rotate_left
            · (intro w hSw; (try dsimp only at hSw); go_simp; all_goals (with_reducible rfl))
            try simp only [Act.put, List.setIfInBounds_toArray, List.set_cons_zero, List.set_cons_succ]
            refine wpAnyH_ready (rs := [12]) (by kernel_rfl) (by simp) ?_
            refine AllReadyH.cons rfl (fun K hK => ?_) AllReadyH.nil
            go_simp
            refine (HL12.out _ HB15.out).mono ?_
            clear HL12
            rintro e w16 ⟨t16, n16, k16, rfl, ho16, hb16⟩
            have HB16 : Hid (Below w8.heap.size w8 w16) := HB15.out.trans (hb16.mono HB15.out.size)
            have h16 := HL14.out w16 t16 n16 k16 HB16.out ho16
            clear hb16 ho16 HL14
            go_wp2_with fail
            refine hK.out _ _ ?_ (fun hHeld => ?_)
            · exact HS2.out _ HB16.out
            clear hK K
            try simp only [Act.put, List.setIfInBounds_toArray, List.set_cons_zero, List.set_cons_succ]
            refine wpAnyH_ready (rs := [14]) (by kernel_rfl) (by simp) ?_
            refine AllReadyH.cons rfl (fun K hK => ?_) AllReadyH.nil
            go_simp
            refine h16.mono ?_
            clear h16
            rintro e w17 ⟨rfl, hb17⟩
            have HB17 : Hid (Below w8.heap.size w8 w17) := HB16.out.trans (hb17.mono HB16.out.size)
            clear hb17
            go_wp2_with fail
            refine hK.out _ _ ?_ (fun hHeld => ?_)
            · exact HS2.out _ HB17.out
            clear hK K
            try simp only [Act.put, List.setIfInBounds_toArray, List.set_cons_zero, List.set_cons_succ]
            refine held_take (i := 15) (d := 106) (v := ?_) rfl rfl (by kernel_rfl) (by kernel_rfl) (by kernel_rfl) (fun _ _ _ h => h) (Or.inl ⟨by rfl, ?_⟩) hHeld ?_
            rotate_left
            · (intro w hSw; (try dsimp only at hSw); go_simp; all_goals (with_reducible rfl))
            try simp only [Act.put, List.setIfInBounds_toArray, List.set_cons_zero, List.set_cons_succ]
            refine held_take (i := 16) (d := 107) (v := ?_) rfl rfl (by kernel_rfl) (by kernel_rfl) (by kernel_rfl) (fun _ _ _ h => h) (Or.inl ⟨by rfl, ?_⟩) hHeld ?_
            rotate_left
            · (intro w hSw; (try dsimp only at hSw); go_simp; all_goals (with_reducible rfl))
            try simp only [Act.put, List.setIfInBounds_toArray, List.set_cons_zero, List.set_cons_succ]
            refine wpAnyH_ready (rs := [17]) (by kernel_rfl) (by simp) ?_
            refine AllReadyH.cons rfl (fun K hK => ?_) AllReadyH.nil
            go_simp
            refine (awake9_any w17).mono ?_
            rintro e w18 ⟨rfl, hb18⟩
            have HB18 : Hid (Below w8.heap.size w8 w18) := HB17.out.trans (hb18.mono HB17.out.size)
            clear hb18
            go_wp2_with fail
            refine hK.out _ _ ?_ (fun hHeld => ?_)
            · exact HS2.out _ HB18.out
            clear hK K
            try simp only [Act.put, List.setIfInBounds_toArray, List.set_cons_zero, List.set_cons_succ]
            refine held_take (i := 18) (d := 109) (v := ?_) rfl rfl (by kernel_rfl) (by kernel_rfl) (by kernel_rfl) (fun _ _ _ h => h) (Or.inl ⟨by rfl, ?_⟩) hHeld ?_
            rotate_left
            · (intro w hSw; (try dsimp only at hSw); go_simp; all_goals (with_reducible rfl))
            try simp only [Act.put, List.setIfInBounds_toArray, List.set_cons_zero, List.set_cons_succ]
            refine held_take (i := 19) (d := 8) (v := ?_) rfl rfl (by kernel_rfl) (by kernel_rfl) (by kernel_rfl) (fun _ _ _ h => h) (Or.inl ⟨by rfl, ?_⟩) hHeld ?_
            rotate_left
            · (intro w hSw; (try dsimp only at hSw); go_simp; all_goals (with_reducible rfl))
            try simp only [Act.put, List.setIfInBounds_toArray, List.set_cons_zero, List.set_cons_succ]
            refine wpAnyH_done (by kernel_rfl) ?_ _
            refine NoPanic.normal ?_
            go_wp2
            go_ret
            exact ⟨rfl, HFIN.out _ HB18.out⟩
    · have hpos : 0 < l.length := by omega
      obtain ⟨b, off, rfl, hc⟩ := HW5.out.at hpos
      obtain ⟨k, hk⟩ : ∃ k, l.length = k + 1 := ⟨l.length - 1, by omega⟩
      have HLV : Hid (lastL l = nth l k) := by show lastL l = nth l k; rw [lastL, hk]; rfl
      generalize hlq : l.length = ll at *
      subst hk
      obtain ⟨d0, d1, d2, d3⟩ := hc k (by omega)
      obtain ⟨z0, z1, z2, z3⟩ := HX5.out.cells
      have f0 := HX5.out.free 0
      have f1 := HX5.out.free 1
      have f2 := HX5.out.free 2
      have f3 := HX5.out.free 3
      have hx6 := HX5.out.set (u := lastL l)
      have hb6 := below_set4 (a := .int .i64 (lastL l).pos) (b := .int .u64 ((lastL l).num : Nat)) (c := .string (lastL l).val) (d := .bool (lastL l).gone) HB5.out HPL.out
      rw [← HLV.out] at d0 d1 d2 d3
      have e0 : ((k : Int) + 1 > 0) := by omega
      clear hc HX5 HB5 hl0 hpos
      have HL9 : Hid (l.length = k + 1) := hlq
      go_upto_region 8 with fail
      generalize ((((w5.setCell ⟨p11, 0, none⟩ (.int .i64 (lastL l).pos)).setCell ⟨p11, 1, none⟩ (.int .u64 ((lastL l).num : Nat))).setCell ⟨p11, 2, none⟩ (.string (lastL l).val)).setCell ⟨p11, 3, none⟩ (.bool (lastL l).gone)) = w6 at *
      have HX6 : Hid (VarV w6 p11 43 (lastL l)) := hx6
      have HB6 : Hid (Below w2.heap.size w2 w6) := hb6
      clear hx6 hb6 d0 d1 d2 d3 z0 z1 z2 z3 f0 f1 f2 f3 e0
      have q6 := (HV2.out.later HB6.out).cell
      have HO6 : Hid (Ob w6 (.slice ua un uc) l) := HO2.out.later HB6.out
      by_cases hA : a1 ≤ (lastL l).pos ∨ may a2 a3 = false
      · have h6 := put_arg _ l a1 a2 a3 w6 HO6.out hr hws hA
        go_wp2_with fail
        refine h6.mono ?_
        clear h6 q6
        rintro e w7 ⟨rfl, hb7⟩
        have hbx : Below w7.heap.size w7 (w7.alloc (.cells #[.slice none 0 0] 25)) := (Below.refl _ _).alloc (Nat.le_refl _) _
        have HB8 : Hid (Below w2.heap.size w2 (w7.alloc (.cells #[.slice none 0 0] 25))) := HB6.out.trans ((hb7.trans (hbx.mono hb7.size)).mono HB6.out.size)
        have HX8 : Hid (VarV (w7.alloc (.cells #[.slice none 0 0] 25)) p11 43 (lastL l)) := (HX6.out.later hb7).later hbx
        have HP8 : Hid (VarO (w7.alloc (.cells #[.slice none 0 0] 25)) w7.heap.size (.slice none 0 0)) := heap_alloc_new w7 _
        clear hb7 hbx
        go_upto_region 9 with fail
        generalize w7.alloc (.cells #[.slice none 0 0] 25) = w8 at *
        generalize w7.heap.size = p12 at *
        have q8 := HP8.out.cell
        obtain ⟨x0, x1, x2, x3⟩ := HX8.out.cells
        generalize lastL l = v at *
        by_cases h1 : a1 < 1
        · go_wp2_with fail
          refine (awake9_any w8).mono ?_
          rintro e w9 ⟨rfl, hb9⟩
          go_wp2
          go_ret
          exact ⟨rfl, HB2.out.trans ((HB8.out.trans (hb9.mono HB8.out.size)).mono HB2.out.size)⟩
        · by_cases h2 : a1 ≤ v.pos
          · go_wp2_with fail
            refine (awake9_any w8).mono ?_
            rintro e w9 ⟨rfl, hb9⟩
            go_wp2
            go_ret
            exact ⟨rfl, HB2.out.trans ((HB8.out.trans (hb9.mono HB8.out.size)).mono HB2.out.size)⟩
          · have hmay : may a2 a3 = false := by rcases hA with h | h; (exact absurd h h2); exact h
            have h8 := ref_may_any a2 a3 w8 hws
            rw [hmay] at h8
            clear hA hmay
            go_wp2_with fail
            refine h8.mono ?_
            rintro e w9 ⟨rfl, hw⟩
            subst w9
            go_wp2_with fail
            refine (awake9_any w8).mono ?_
            rintro e w9 ⟨rfl, hb9⟩
            go_wp2
            go_ret
            exact ⟨rfl, HB2.out.trans ((HB8.out.trans (hb9.mono HB8.out.size)).mono HB2.out.size)⟩
      · have hp : (lastL l).pos < a1 := by have : ¬ a1 ≤ (lastL l).pos := fun h => hA (.inl h); omega
        have hmay : may a2 a3 = true := by cases h : may a2 a3; (exact absurd (.inr h) hA); rfl
        have h1 : ¬ a1 < 1 := by have := HP0.out; omega
        clear hA
        by_cases hfull : (lastL l).num = 18446744073709551615
        · have h6 := put_full _ l a1 a2 a3 w6 HO6.out hr hws hp hmay hfull
          have HFU : Hid ((lastL l).num = 18446744073709551615) := hfull
          clear hfull
          go_wp2_with fail
          refine h6.mono ?_
          clear h6 q6
          rintro e w7 ⟨rfl, hb7⟩
          have hbx : Below w7.heap.size w7 (w7.alloc (.cells #[.slice none 0 0] 25)) := (Below.refl _ _).alloc (Nat.le_refl _) _
          have HB8 : Hid (Below w2.heap.size w2 (w7.alloc (.cells #[.slice none 0 0] 25))) := HB6.out.trans ((hb7.trans (hbx.mono hb7.size)).mono HB6.out.size)
          have HX8 : Hid (VarV (w7.alloc (.cells #[.slice none 0 0] 25)) p11 43 (lastL l)) := (HX6.out.later hb7).later hbx
          have HP8 : Hid (VarO (w7.alloc (.cells #[.slice none 0 0] 25)) w7.heap.size (.slice none 0 0)) := heap_alloc_new w7 _
          clear hb7 hbx
          go_upto_region 9 with fail
          generalize w7.alloc (.cells #[.slice none 0 0] 25) = w8 at *
          generalize w7.heap.size = p12 at *
          have q8 := HP8.out.cell
          obtain ⟨x0, x1, x2, x3⟩ := HX8.out.cells
          generalize lastL l = v at *
          have e1 : ((v.num : Int) == 18446744073709551615) = true := by have := HFU.out; simp; omega
          have h2 : ¬ a1 ≤ v.pos := by omega
          have h8 := ref_may_any a2 a3 w8 hws
          rw [hmay] at h8
          clear hmay hp
          go_wp2_with fail
          refine h8.mono ?_
          rintro e w9 ⟨rfl, hw⟩
          subst w9
          go_wp2_with fail
          refine (awake9_any w8).mono ?_
          rintro e w9 ⟨rfl, hb9⟩
          go_wp2
          go_ret
          exact ⟨rfl, HB2.out.trans ((HB8.out.trans (hb9.mono HB8.out.size)).mono HB2.out.size)⟩
        · have hlt : (lastL l).num < 18446744073709551615 := by have := HNU.out; omega
          have h6 := put_ok _ l a1 a2 a3 w6 HO6.out hr hwp hws hp hmay hlt (by omega)
          have HRN : Hid (rightL (l ++ [⟨a1, (lastL l).num + 1, a2, a3⟩]) = true) := right_snoc hr _ rfl hlt hp (by show 1 ≤ a1; omega) hmay
          have HUN : Hid (undoL (l ++ [⟨a1, (lastL l).num + 1, a2, a3⟩]) (a1 - 1) = l) := undo_snoc hri ⟨a1, (lastL l).num + 1, a2, a3⟩ hp
          go_wp2_with fail
          refine h6.mono ?_
          clear h6 q6
          rintro e w7 ⟨u7, rfl, ho7, hb7⟩
          obtain ⟨t7, n7, k7, rfl⟩ := ho7.isSlice
          have hbx : Below w7.heap.size w7 (w7.alloc (.cells #[.slice t7 n7 k7] 25)) := (Below.refl _ _).alloc (Nat.le_refl _) _
          have HB8 : Hid (Below w2.heap.size w2 (w7.alloc (.cells #[.slice t7 n7 k7] 25))) := HB6.out.trans ((hb7.trans (hbx.mono hb7.size)).mono HB6.out.size)
          have HX8 : Hid (VarV (w7.alloc (.cells #[.slice t7 n7 k7] 25)) p11 43 (lastL l)) := (HX6.out.later hb7).later hbx
          have HP8 : Hid (VarO (w7.alloc (.cells #[.slice t7 n7 k7] 25)) w7.heap.size (.slice t7 n7 k7)) := heap_alloc_new w7 _
          have HQ8 : Hid (Ob (w7.alloc (.cells #[.slice t7 n7 k7] 25)) (.slice t7 n7 k7) (l ++ [⟨a1, (lastL l).num + 1, a2, a3⟩])) := ho7.later hbx
          clear hb7 hbx ho7
          go_upto_region 9 with fail
          generalize w7.alloc (.cells #[.slice t7 n7 k7] 25) = w8 at *
          generalize w7.heap.size = p12 at *
          have q8 := HP8.out.cell
          obtain ⟨x0, x1, x2, x3⟩ := HX8.out.cells
          have hlen2 : (l ++ [(⟨a1, (lastL l).num + 1, a2, a3⟩ : Ver)]).length ≤ 21 := by simp; omega
          have HOKV : Hid (Ver.ok ⟨a1, (lastL l).num + 1, a2, a3⟩) := ⟨hwp, by show (lastL l).num + 1 < 18446744073709551616; omega, hws⟩
          generalize lastL l = v at *
          have e1 : ((v.num : Int) == 18446744073709551615) = false := by simp; omega
          have h2 : ¬ a1 ≤ v.pos := by omega
          have h8 := ref_may_any a2 a3 w8 hws
          rw [hmay] at h8
          clear hmay hp
          go_wp2_with fail
          refine h8.mono ?_
          rintro e w9 ⟨rfl, hw⟩
          subst w9
          clear h8
          go_upto_region 13 with fail
          have HS : Hid (∀ W, Below w8.heap.size w8 W → W.cell? ⟨p9, 0, none⟩ = some (.slice ua un uc) ∧ W.cell? ⟨p12, 0, none⟩ = some (.slice t7 n7 k7) ∧ W.cell? ⟨p11, 1, none⟩ = some (.int .u64 (v.num : Nat))) := fun W hW => ⟨(HV2.out.later (HB8.out.trans (hW.mono HB8.out.size))).cell, (HP8.out.later hW).cell, (HX8.out.later hW).cells.2.1⟩
          have HOo : Hid (∀ W, Below w8.heap.size w8 W → Ob W (.slice ua un uc) l) := fun W hW => HO2.out.later (HB8.out.trans (hW.mono HB8.out.size))
          have HOp : Hid (∀ W, Below w8.heap.size w8 W → Ob W (.slice t7 n7 k7) (l ++ [⟨a1, v.num + 1, a2, a3⟩])) := fun W hW => HQ8.out.later hW
          have HFIN : Hid (∀ W, Below w8.heap.size w8 W → Below w.heap.size w W) := fun W hW => HB2.out.trans ((HB8.out.trans (hW.mono HB8.out.size)).mono HB2.out.size)
          have HB9 : Hid (Below w8.heap.size w8 w8.drew) := (Below.refl _ _).drew
          have hnv : v.num + 1 < 18446744073709551616 := by omega
          have hwrap : IntKind.u64.wrap ((v.num : Int) + 1) = (v.num : Int) + 1 := IntWalk.u64_in _ ⟨by omega, by omega⟩
          have hsub : IntKind.i64.wrap (a1 - 1) = a1 - 1 := by
            have hbi := bounds_i64 hwp
            exact IntWalk.i64_in _ ⟨by omega, by omega⟩
          clear q8 x0 x1 x2 x3 HX8 HP8 HQ8 hfull hlt e1 h2
          refine wp_region_noPanic ?_
          refine wp_region_held_drew (S := (fun w' => w'.cell? ⟨p9, 0, none⟩ = some (.slice ua un uc) ∧ w'.cell? ⟨p12, 0, none⟩ = some (.slice t7 n7 k7) ∧ w'.cell? ⟨p11, 1, none⟩ = some (.int .u64 (v.num : Nat)))) (by kernel_rfl) ?_ (fun hHeld => ?_)
          · exact HS.out _ HB9.out
          refine held_take (i := 0) (d := 80) (v := ?_) rfl rfl (by kernel_rfl) (by kernel_rfl) (by kernel_rfl) (fun _ _ _ h => h) (Or.inl ⟨by rfl, ?_⟩) hHeld ?_
          rotate_left
          · (intro w hSw; (try dsimp only at hSw); go_simp; all_goals (with_reducible rfl))
          try simp only [Act.put, List.setIfInBounds_toArray, List.set_cons_zero, List.set_cons_succ]
          refine held_take (i := 2) (d := 82) (v := ?_) rfl rfl (by kernel_rfl) (by kernel_rfl) (by kernel_rfl) (fun _ _ _ h => h) (Or.inl ⟨by rfl, ?_⟩) hHeld ?_
          rotate_left
          · (intro w hSw; (try dsimp only at hSw); go_simp; all_goals (with_reducible rfl))
          try simp only [Act.put, List.setIfInBounds_toArray, List.set_cons_zero, List.set_cons_succ]
          refine held_take (i := 3) (d := 83) (v := ?_) rfl rfl (by kernel_rfl) (by kernel_rfl) (by kernel_rfl) (fun _ _ _ h => h) (Or.inl ⟨by rfl, ?_⟩) hHeld ?_
          rotate_left
          · (intro w hSw; (try dsimp only at hSw); go_simp; all_goals (with_reducible rfl))
          try simp only [Act.put, List.setIfInBounds_toArray, List.set_cons_zero, List.set_cons_succ]
          refine held_take (i := 4) (d := 84) (v := ?_) rfl rfl (by kernel_rfl) (by kernel_rfl) (by kernel_rfl) (fun _ _ _ h => h) (Or.inl ⟨by rfl, ?_⟩) hHeld ?_
          rotate_left
          · (intro w hSw; (try dsimp only at hSw); go_simp; all_goals (with_reducible rfl))
          try simp only [Act.put, List.setIfInBounds_toArray, List.set_cons_zero, List.set_cons_succ]
          refine held_take (i := 5) (d := 85) (v := ?_) rfl rfl (by kernel_rfl) (by kernel_rfl) (by kernel_rfl) (fun _ _ _ h => h) (Or.inl ⟨by rfl, ?_⟩) hHeld ?_
          rotate_left
          · (intro w hSw; (try dsimp only at hSw); go_simp; all_goals (with_reducible rfl))
          try simp only [Act.put, List.setIfInBounds_toArray, List.set_cons_zero, List.set_cons_succ]
          refine held_take (i := 6) (d := 86) (v := ?_) rfl rfl (by kernel_rfl) (by kernel_rfl) (by kernel_rfl) (fun _ _ _ h => h) (Or.inl ⟨by rfl, ?_⟩) hHeld ?_
          rotate_left
          · (intro w hSw; (try dsimp only at hSw); go_simp; all_goals (with_reducible rfl))
          try simp only [Act.put, List.setIfInBounds_toArray, List.set_cons_zero, List.set_cons_succ]
          refine held_take (i := 7) (d := 87) (v := ?_) rfl rfl (by kernel_rfl) (by kernel_rfl) (by kernel_rfl) (fun _ _ _ h => h) (Or.inl ⟨by rfl, ?_⟩) hHeld ?_
          rotate_left
          · (intro w hSw; (try dsimp only at hSw); go_simp; all_goals (with_reducible rfl))
          try simp only [Act.put, List.setIfInBounds_toArray, List.set_cons_zero, List.set_cons_succ]
          refine held_take (i := 8) (d := 88) (v := ?_) rfl rfl (by kernel_rfl) (by kernel_rfl) (by kernel_rfl) (fun _ _ _ h => h) (Or.inl ⟨by rfl, ?_⟩) hHeld ?_
          rotate_left
          · (intro w hSw; (try dsimp only at hSw); go_simp; all_goals (with_reducible rfl))
          try simp only [Act.put, List.setIfInBounds_toArray, List.set_cons_zero, List.set_cons_succ]
          refine wpAnyH_ready (rs := [1, 9]) (by kernel_rfl) (by simp) ?_
          refine AllReadyH.cons rfl (fun K hK => ?_) (AllReadyH.cons rfl (fun K hK => ?_) AllReadyH.nil)
          · go_simp
            refine (plain9_any _ l w8.drew (HOo.out _ HB9.out) (by omega)).mono ?_
            rintro e w10 ⟨v10, rfl, ho10, hb10⟩
            obtain ⟨t10, n10, k10, rfl⟩ := ho10.isSlice
            have HB10 : Hid (Below w8.heap.size w8 w10) := HB9.out.trans (hb10.mono HB9.out.size)
            have HB11 : Hid (Below w8.heap.size w8 (w10.alloc (.cells #[.int .i64 a1, .int .u64 ((v.num : Int) + 1), .string a2, .bool a3] 43))) := HB10.out.alloc HB10.out.size _
            have HO11 : Hid (VOwn (w10.alloc (.cells #[.int .i64 a1, .int .u64 ((v.num : Int) + 1), .string a2, .bool a3] 43)) w8.heap.size 43 (.slice t10 n10 k10) l) := VOwn.later ho10 ((Below.refl _ _).alloc (Nat.le_refl _) _)
            have HV11 : Hid (VarV (w10.alloc (.cells #[.int .i64 a1, .int .u64 ((v.num : Int) + 1), .string a2, .bool a3] 43)) w10.heap.size 43 (⟨a1, v.num + 1, a2, a3⟩ : Ver)) := heap_alloc_new w10 _
            have HBS : Hid (w8.heap.size ≤ (w10.alloc (.cells #[.int .i64 a1, .int .u64 ((v.num : Int) + 1), .string a2, .bool a3] 43)).heap.size) := HB11.out.size
            have HBL : Hid (w8.heap.size ≤ w8.heap.size) := Nat.le_refl _
            clear hb10 ho10
            go_wp2_with fail
            refine hK.out _ _ ?_ (fun hHeld => ?_)
            · exact HS.out _ HB10.out
            clear hK K
            try simp only [Act.put, List.setIfInBounds_toArray, List.set_cons_zero, List.set_cons_succ]
            refine wpAnyH_ready (rs := [9]) (by kernel_rfl) (by simp) ?_
            refine AllReadyH.cons rfl (fun K hK => ?_) AllReadyH.nil
            go_simp
            refine hK.out _ _ ?_ (fun hHeld => ?_)
            · exact HS.out _ HB11.out
            clear hK K
            try simp only [Act.put, List.setIfInBounds_toArray, List.set_cons_zero, List.set_cons_succ]
            generalize w10.alloc (.cells #[.int .i64 a1, .int .u64 ((v.num : Int) + 1), .string a2, .bool a3] 43) = w11 at *
            refine wpAnyH_ready (rs := [10]) (by kernel_rfl) (by simp) ?_
            refine AllReadyH.cons rfl (fun K hK => ?_) AllReadyH.nil
            refine step_append_at (d := 90) rfl (by rfl) _ _ 22 43 Try.underlying22 Try.info_43 (by rfl) w8.heap.size _ l (by rfl) HO11.out w10.heap.size _ (⟨a1, v.num + 1, a2, a3⟩ : Ver) (by rfl) HV11.out HOKV.out (by omega) HBS.out ?_
            intro v12 w12 ho12 hb12
            obtain ⟨b12, n12, c12, rfl, hr12⟩ := own_row ho12
            have HB12 : Hid (Below w8.heap.size w8 w12) := HB11.out.trans (hb12.mono HBL.out)
            have HR12 : Hid (VRow w12 b12 n12 (l ++ [(⟨a1, v.num + 1, a2, a3⟩ : Ver)])) := hr12
            clear ho12 hb12 hr12
            refine hK.out _ _ ?_ (fun hHeld => ?_)
            · exact HS.out _ HB12.out
            clear hK K
            try simp only [Act.put, List.setIfInBounds_toArray, List.set_cons_zero, List.set_cons_succ]
            refine held_take (i := 11) (d := 14) (v := ?_) rfl rfl (by kernel_rfl) (by kernel_rfl) (by kernel_rfl) (fun _ _ _ h => h) (Or.inl ⟨by rfl, ?_⟩) hHeld ?_
            rotate_left
            · (intro w hSw; (try dsimp only at hSw); go_simp; all_goals (with_reducible rfl))
            try simp only [Act.put, List.setIfInBounds_toArray, List.set_cons_zero, List.set_cons_succ]
            refine wpAnyH_done (by kernel_rfl) ?_ _
            refine NoPanic.normal ?_
            have HL4 : Hid (∀ W, Below w8.heap.size w8 W → Calls Try.prog 13 #[.agg #[.slice t7 n7 k7]] W fun e w' => ∃ b n c, e = .returned (.slice b n c) ∧ VRow w' b n (l ++ [(⟨a1, v.num + 1, a2, a3⟩ : Ver)]) ∧ Below W.heap.size W w') := by
              intro W hW
              refine (plain9_any _ (l ++ [(⟨a1, v.num + 1, a2, a3⟩ : Ver)]) W (HOp.out W hW) (by omega)).mono ?_
              rintro e w' ⟨v, rfl, ho, hb⟩
              obtain ⟨b, n, c, rfl, hr⟩ := own_row ho
              exact ⟨b, n, c, rfl, hr, hb⟩
            have HL6 : Hid (∀ W b n c, VRow W b n (l ++ [(⟨a1, v.num + 1, a2, a3⟩ : Ver)]) → Below w12.heap.size w12 W → Calls Try.prog 23 #[.slice b n c, .slice b12 n12 c12] W fun e w' => e = .returned (.bool true) ∧ ∃ q, w' = W.drewN q) := by
              intro W b n c h1 h2
              have := ref_same_any b b12 _ _ c c12 (l ++ [(⟨a1, v.num + 1, a2, a3⟩ : Ver)]) (l ++ [(⟨a1, v.num + 1, a2, a3⟩ : Ver)]) W h1 (HR12.out.later h2)
              rwa [sameB_self] at this
            have HL12 : Hid (∀ W, Below w8.heap.size w8 W → Calls Try.prog 20 #[.agg #[.slice t7 n7 k7], .int .i64 (a1 - 1)] W fun e w' => ∃ a n c, e = .returned (.agg #[.slice a n c]) ∧ Ob w' (.slice a n c) l ∧ Below W.heap.size W w') := by
              intro W hW
              refine (undo_right _ (l ++ [(⟨a1, v.num + 1, a2, a3⟩ : Ver)]) (a1 - 1) W (HOp.out W hW) HRN.out).mono ?_
              rw [HUN.out]
              rintro e w' ⟨u, rfl, ho, hb⟩
              obtain ⟨a, n, c, rfl⟩ := ho.isSlice
              exact ⟨a, n, c, rfl, ho, hb⟩
            have HL14 : Hid (∀ W a n c, Below w8.heap.size w8 W → Ob W (.slice a n c) l → Calls Try.prog 24 #[.agg #[.slice a n c], .agg #[.slice ua un uc]] W fun e w' => e = .returned (.bool true) ∧ Below W.heap.size W w') := by
              intro W a n c hW ho
              have := same_any _ _ l l W ho (HOo.out W hW)
              rwa [sameB_self] at this
            clear HR12 HOp HOo HRN HUN
            go_wp2
            have HS2 : Hid (∀ W, Below w8.heap.size w8 W → W.cell? ⟨p9, 0, none⟩ = some (.slice ua un uc) ∧ W.cell? ⟨p12, 0, none⟩ = some (.slice t7 n7 k7)) := fun W hW => ⟨(HS.out W hW).1, (HS.out W hW).2.1⟩
            have HB13 : Hid (Below w8.heap.size w8 w12.drew) := HB12.out.drew
            have HD13 : Hid (Below w12.heap.size w12 w12.drew) := (Below.refl _ _).drew
            clear HS
            refine wp_region_noPanic ?_
            refine wp_region_held_drew (S := (fun w' => w'.cell? ⟨p9, 0, none⟩ = some (.slice ua un uc) ∧ w'.cell? ⟨p12, 0, none⟩ = some (.slice t7 n7 k7))) (by kernel_rfl) ?_ (fun hHeld => ?_)
            · exact HS2.out _ HB13.out
            refine held_take (i := 0) (d := 91) (v := ?_) rfl rfl (by kernel_rfl) (by kernel_rfl) (by kernel_rfl) (fun _ _ _ h => h) (Or.inl ⟨by rfl, ?_⟩) hHeld ?_
            rotate_left
            · (intro w hSw; (try dsimp only at hSw); go_simp; all_goals (with_reducible rfl))
            try simp only [Act.put, List.setIfInBounds_toArray, List.set_cons_zero, List.set_cons_succ]
            refine held_take (i := 1) (d := 92) (v := ?_) rfl rfl (by kernel_rfl) (by kernel_rfl) (by kernel_rfl) (fun _ _ _ h => h) (Or.inl ⟨by rfl, ?_⟩) hHeld ?_
            rotate_left
            · (intro w hSw; (try dsimp only at hSw); go_simp; all_goals (with_reducible rfl))
            try simp only [Act.put, List.setIfInBounds_toArray, List.set_cons_zero, List.set_cons_succ]
            refine held_take (i := 2) (d := 93) (v := ?_) rfl rfl (by kernel_rfl) (by kernel_rfl) (by kernel_rfl) (fun _ _ _ h => h) (Or.inl ⟨by rfl, ?_⟩) hHeld ?_
            rotate_left
            · (intro w hSw; (try dsimp only at hSw); go_simp; all_goals (with_reducible rfl))
            try simp only [Act.put, List.setIfInBounds_toArray, List.set_cons_zero, List.set_cons_succ]
            refine held_take (i := 3) (d := 94) (v := ?_) rfl rfl (by kernel_rfl) (by kernel_rfl) (by kernel_rfl) (fun _ _ _ h => h) (Or.inl ⟨by rfl, ?_⟩) hHeld ?_
            rotate_left
            · (intro w hSw; (try dsimp only at hSw); go_simp; all_goals (with_reducible rfl))
            try simp only [Act.put, List.setIfInBounds_toArray, List.set_cons_zero, List.set_cons_succ]
            refine held_take (i := 5) (d := 96) (v := ?_) rfl rfl (by kernel_rfl) (by kernel_rfl) (by kernel_rfl) (fun _ _ _ h => h) (Or.inl ⟨by rfl, ?_⟩) hHeld ?_
            rotate_left
            · (intro w hSw; (try dsimp only at hSw); go_simp; all_goals (with_reducible rfl))
            try simp only [Act.put, List.setIfInBounds_toArray, List.set_cons_zero, List.set_cons_succ]
            refine wpAnyH_ready (rs := [4]) (by kernel_rfl) (by simp) ?_
            refine AllReadyH.cons rfl (fun K hK => ?_) AllReadyH.nil
            go_simp
            refine (HL4.out _ HB13.out).mono ?_
            clear HL4
            rintro e w14 ⟨b14, n14, c14, rfl, hr14, hb14⟩
            have HB14 : Hid (Below w8.heap.size w8 w14) := HB13.out.trans (hb14.mono HB13.out.size)
            have h14 := HL6.out w14 b14 n14 c14 hr14 (HD13.out.trans (hb14.mono HD13.out.size))
            clear hb14 hr14 HL6
            go_wp2_with fail
            refine hK.out _ _ ?_ (fun hHeld => ?_)
            · exact HS2.out _ HB14.out
            clear hK K
            try simp only [Act.put, List.setIfInBounds_toArray, List.set_cons_zero, List.set_cons_succ]
            refine wpAnyH_ready (rs := [6]) (by kernel_rfl) (by simp) ?_
            refine AllReadyH.cons rfl (fun K hK => ?_) AllReadyH.nil
            go_simp
            refine h14.mono ?_
            clear h14
            rintro e w15' ⟨rfl, qq, rfl⟩
            have HB15 : Hid (Below w8.heap.size w8 (w14.drewN qq)) := below_drewN HB14.out _
            go_wp2_with fail
            refine hK.out _ _ ?_ (fun hHeld => ?_)
            · exact HS2.out _ HB15.out
            clear hK K
            try simp only [Act.put, List.setIfInBounds_toArray, List.set_cons_zero, List.set_cons_succ]
            generalize w14.drewN qq = w15 at *
            refine held_take (i := 7) (d := 98) (v := ?_) rfl rfl (by kernel_rfl) (by kernel_rfl) (by kernel_rfl) (fun _ _ _ h => h) (Or.inl ⟨by rfl, ?_⟩) hHeld ?_
            rotate_left
            · (intro w hSw; (try dsimp only at hSw); go_simp; all_goals (with_reducible rfl))
            try simp only [Act.put, List.setIfInBounds_toArray, List.set_cons_zero, List.set_cons_succ]
            refine held_take (i := 8) (d := 99) (v := ?_) rfl rfl (by kernel_rfl) (by kernel_rfl) (by kernel_rfl) (fun _ _ _ h => h) (Or.inl ⟨by rfl, ?_⟩) hHeld ?_
            rotate_left
            · (intro w hSw; (try dsimp only at hSw); go_simp; all_goals (with_reducible rfl))
            try simp only [Act.put, List.setIfInBounds_toArray, List.set_cons_zero, List.set_cons_succ]
            refine held_take (i := 9) (d := 100) (v := ?_) rfl rfl (by kernel_rfl) (by kernel_rfl) (by kernel_rfl) (fun _ _ _ h => h) (Or.inl ⟨by rfl, ?_⟩) hHeld ?_
            rotate_left
            · (intro w hSw; (try dsimp only at hSw); go_simp; all_goals (with_reducible rfl))
            try simp only [Act.put, List.setIfInBounds_toArray, List.set_cons_zero, List.set_cons_succ]
            refine held_take (i := 10) (d := 101) (v := ?_) rfl rfl (by kernel_rfl) (by kernel_rfl) (by kernel_rfl) (fun _ _ _ h => h) (Or.inl ⟨by rfl, ?_⟩) hHeld ?_
            rotate_left
            · (intro w hSw; (try dsimp only at hSw); go_simp; all_goals (with_reducible rfl))
            try simp only [Act.put, List.setIfInBounds_toArray, List.set_cons_zero, List.set_cons_succ]
            refine held_take (i := 11) (d := 102) (v := ?_) rfl rfl (by kernel_rfl) (by kernel_rfl) (by kernel_rfl) (fun _ _ _ h => h) (Or.inl ⟨by rfl, ?_⟩) hHeld ?_
            rotate_left
            · (intro w hSw; (try dsimp only at hSw); go_simp; all_goals (with_reducible rfl))
            try simp only [Act.put, List.setIfInBounds_toArray, List.set_cons_zero, List.set_cons_succ]
            refine held_take (i := 13) (d := 104) (v := ?_) rfl rfl (by kernel_rfl) (by kernel_rfl) (by kernel_rfl) (fun _ _ _ h => h) (Or.inl ⟨by rfl, ?_⟩) hHeld ?_
            rotate_left
            · (intro w hSw; (try dsimp only at hSw); go_simp; all_goals (with_reducible rfl))
            try simp only [Act.put, List.setIfInBounds_toArray, List.set_cons_zero, List.set_cons_succ]
            refine wpAnyH_ready (rs := [12]) (by kernel_rfl) (by simp) ?_
            refine AllReadyH.cons rfl (fun K hK => ?_) AllReadyH.nil
            go_simp
            refine (HL12.out _ HB15.out).mono ?_
            clear HL12
            rintro e w16 ⟨t16, n16, k16, rfl, ho16, hb16⟩
            have HB16 : Hid (Below w8.heap.size w8 w16) := HB15.out.trans (hb16.mono HB15.out.size)
            have h16 := HL14.out w16 t16 n16 k16 HB16.out ho16
            clear hb16 ho16 HL14
            go_wp2_with fail
            refine hK.out _ _ ?_ (fun hHeld => ?_)
            · exact HS2.out _ HB16.out
            clear hK K
            try simp only [Act.put, List.setIfInBounds_toArray, List.set_cons_zero, List.set_cons_succ]
            refine wpAnyH_ready (rs := [14]) (by kernel_rfl) (by simp) ?_
            refine AllReadyH.cons rfl (fun K hK => ?_) AllReadyH.nil
            go_simp
            refine h16.mono ?_
            clear h16
            rintro e w17 ⟨rfl, hb17⟩
            have HB17 : Hid (Below w8.heap.size w8 w17) := HB16.out.trans (hb17.mono HB16.out.size)
            clear hb17
            go_wp2_with fail
            refine hK.out _ _ ?_ (fun hHeld => ?_)
            · exact HS2.out _ HB17.out
            clear hK K
            try simp only [Act.put, List.setIfInBounds_toArray, List.set_cons_zero, List.set_cons_succ]
            refine held_take (i := 15) (d := 106) (v := ?_) rfl rfl (by kernel_rfl) (by kernel_rfl) (by kernel_rfl) (fun _ _ _ h => h) (Or.inl ⟨by rfl, ?_⟩) hHeld ?_
            rotate_left
            · (intro w hSw; (try dsimp only at hSw); go_simp; all_goals (with_reducible rfl))
            try simp only [Act.put, List.setIfInBounds_toArray, List.set_cons_zero, List.set_cons_succ]
            refine held_take (i := 16) (d := 107) (v := ?_) rfl rfl (by kernel_rfl) (by kernel_rfl) (by kernel_rfl) (fun _ _ _ h => h) (Or.inl ⟨by rfl, ?_⟩) hHeld ?_
            rotate_left
            · (intro w hSw; (try dsimp only at hSw); go_simp; all_goals (with_reducible rfl))
            try simp only [Act.put, List.setIfInBounds_toArray, List.set_cons_zero, List.set_cons_succ]
            refine wpAnyH_ready (rs := [17]) (by kernel_rfl) (by simp) ?_
            refine AllReadyH.cons rfl (fun K hK => ?_) AllReadyH.nil
            go_simp
            refine (awake9_any w17).mono ?_
            rintro e w18 ⟨rfl, hb18⟩
            have HB18 : Hid (Below w8.heap.size w8 w18) := HB17.out.trans (hb18.mono HB17.out.size)
            clear hb18
            go_wp2_with fail
            refine hK.out _ _ ?_ (fun hHeld => ?_)
            · exact HS2.out _ HB18.out
            clear hK K
            try simp only [Act.put, List.setIfInBounds_toArray, List.set_cons_zero, List.set_cons_succ]
            refine held_take (i := 18) (d := 109) (v := ?_) rfl rfl (by kernel_rfl) (by kernel_rfl) (by kernel_rfl) (fun _ _ _ h => h) (Or.inl ⟨by rfl, ?_⟩) hHeld ?_
            rotate_left
            · (intro w hSw; (try dsimp only at hSw); go_simp; all_goals (with_reducible rfl))
            try simp only [Act.put, List.setIfInBounds_toArray, List.set_cons_zero, List.set_cons_succ]
            refine held_take (i := 19) (d := 8) (v := ?_) rfl rfl (by kernel_rfl) (by kernel_rfl) (by kernel_rfl) (fun _ _ _ h => h) (Or.inl ⟨by rfl, ?_⟩) hHeld ?_
            rotate_left
            · (intro w hSw; (try dsimp only at hSw); go_simp; all_goals (with_reducible rfl))
            try simp only [Act.put, List.setIfInBounds_toArray, List.set_cons_zero, List.set_cons_succ]
            refine wpAnyH_done (by kernel_rfl) ?_ _
            refine NoPanic.normal ?_
            go_wp2
            go_ret
            exact ⟨rfl, HFIN.out _ HB18.out⟩
          · have HB10 : Hid (Below w8.heap.size w8 (w8.alloc (.cells #[.int .i64 a1, .int .u64 ((v.num : Int) + 1), .string a2, .bool a3] 43)).drew) := ((Below.refl _ _).alloc (Nat.le_refl _) _).drew
            have HV10 : Hid (VarV (w8.alloc (.cells #[.int .i64 a1, .int .u64 ((v.num : Int) + 1), .string a2, .bool a3] 43)).drew w8.heap.size 43 (⟨a1, v.num + 1, a2, a3⟩ : Ver)) := heap_alloc_new w8 _
            go_simp
            refine hK.out _ _ ?_ (fun hHeld => ?_)
            · exact HS.out _ HB10.out
            clear hK K
            try simp only [Act.put, List.setIfInBounds_toArray, List.set_cons_zero, List.set_cons_succ]
            generalize (w8.alloc (.cells #[.int .i64 a1, .int .u64 ((v.num : Int) + 1), .string a2, .bool a3] 43)).drew = w10 at *
            refine wpAnyH_ready (rs := [1]) (by kernel_rfl) (by simp) ?_
            refine AllReadyH.cons rfl (fun K hK => ?_) AllReadyH.nil
            go_simp
            refine (plain9_any _ l w10 (HOo.out _ HB10.out) (by omega)).mono ?_
            rintro e w11 ⟨v11, rfl, ho11, hb11⟩
            obtain ⟨t11, n11, k11, rfl⟩ := ho11.isSlice
            have HB11 : Hid (Below w8.heap.size w8 w11) := HB10.out.trans (hb11.mono HB10.out.size)
            have HO11 : Hid (VOwn w11 w10.heap.size 43 (.slice t11 n11 k11) l) := ho11
            have HV11 : Hid (VarV w11 w8.heap.size 43 (⟨a1, v.num + 1, a2, a3⟩ : Ver)) := HV10.out.later hb11
            have HBS : Hid (w10.heap.size ≤ w11.heap.size) := hb11.size
            have HBL : Hid (w8.heap.size ≤ w10.heap.size) := HB10.out.size
            clear hb11 ho11
            go_wp2_with fail
            refine hK.out _ _ ?_ (fun hHeld => ?_)
            · exact HS.out _ HB11.out
            clear hK K
            try simp only [Act.put, List.setIfInBounds_toArray, List.set_cons_zero, List.set_cons_succ]
            refine wpAnyH_ready (rs := [10]) (by kernel_rfl) (by simp) ?_
            refine AllReadyH.cons rfl (fun K hK => ?_) AllReadyH.nil
            refine step_append_at (d := 90) rfl (by rfl) _ _ 22 43 Try.underlying22 Try.info_43 (by rfl) w10.heap.size _ l (by rfl) HO11.out w8.heap.size _ (⟨a1, v.num + 1, a2, a3⟩ : Ver) (by rfl) HV11.out HOKV.out (by omega) HBS.out ?_
            intro v12 w12 ho12 hb12
            obtain ⟨b12, n12, c12, rfl, hr12⟩ := own_row ho12
            have HB12 : Hid (Below w8.heap.size w8 w12) := HB11.out.trans (hb12.mono HBL.out)
            have HR12 : Hid (VRow w12 b12 n12 (l ++ [(⟨a1, v.num + 1, a2, a3⟩ : Ver)])) := hr12
            clear ho12 hb12 hr12
            refine hK.out _ _ ?_ (fun hHeld => ?_)
            · exact HS.out _ HB12.out
            clear hK K
            try simp only [Act.put, List.setIfInBounds_toArray, List.set_cons_zero, List.set_cons_succ]
            refine held_take (i := 11) (d := 14) (v := ?_) rfl rfl (by kernel_rfl) (by kernel_rfl) (by kernel_rfl) (fun _ _ _ h => h) (Or.inl ⟨by rfl, ?_⟩) hHeld ?_
            rotate_left
            · (intro w hSw; (try dsimp only at hSw); go_simp; all_goals (with_reducible rfl))
            try simp only [Act.put, List.setIfInBounds_toArray, List.set_cons_zero, List.set_cons_succ]
            refine wpAnyH_done (by kernel_rfl) ?_ _
            refine NoPanic.normal ?_
            have HL4 : Hid (∀ W, Below w8.heap.size w8 W → Calls Try.prog 13 #[.agg #[.slice t7 n7 k7]] W fun e w' => ∃ b n c, e = .returned (.slice b n c) ∧ VRow w' b n (l ++ [(⟨a1, v.num + 1, a2, a3⟩ : Ver)]) ∧ Below W.heap.size W w') := by
              intro W hW
              refine (plain9_any _ (l ++ [(⟨a1, v.num + 1, a2, a3⟩ : Ver)]) W (HOp.out W hW) (by omega)).mono ?_
              rintro e w' ⟨v, rfl, ho, hb⟩
              obtain ⟨b, n, c, rfl, hr⟩ := own_row ho
              exact ⟨b, n, c, rfl, hr, hb⟩
            have HL6 : Hid (∀ W b n c, VRow W b n (l ++ [(⟨a1, v.num + 1, a2, a3⟩ : Ver)]) → Below w12.heap.size w12 W → Calls Try.prog 23 #[.slice b n c, .slice b12 n12 c12] W fun e w' => e = .returned (.bool true) ∧ ∃ q, w' = W.drewN q) := by
              intro W b n c h1 h2
              have := ref_same_any b b12 _ _ c c12 (l ++ [(⟨a1, v.num + 1, a2, a3⟩ : Ver)]) (l ++ [(⟨a1, v.num + 1, a2, a3⟩ : Ver)]) W h1 (HR12.out.later h2)
              rwa [sameB_self] at this
            have HL12 : Hid (∀ W, Below w8.heap.size w8 W → Calls Try.prog 20 #[.agg #[.slice t7 n7 k7], .int .i64 (a1 - 1)] W fun e w' => ∃ a n c, e = .returned (.agg #[.slice a n c]) ∧ Ob w' (.slice a n c) l ∧ Below W.heap.size W w') := by
              intro W hW
              refine (undo_right _ (l ++ [(⟨a1, v.num + 1, a2, a3⟩ : Ver)]) (a1 - 1) W (HOp.out W hW) HRN.out).mono ?_
              rw [HUN.out]
              rintro e w' ⟨u, rfl, ho, hb⟩
              obtain ⟨a, n, c, rfl⟩ := ho.isSlice
              exact ⟨a, n, c, rfl, ho, hb⟩
            have HL14 : Hid (∀ W a n c, Below w8.heap.size w8 W → Ob W (.slice a n c) l → Calls Try.prog 24 #[.agg #[.slice a n c], .agg #[.slice ua un uc]] W fun e w' => e = .returned (.bool true) ∧ Below W.heap.size W w') := by
              intro W a n c hW ho
              have := same_any _ _ l l W ho (HOo.out W hW)
              rwa [sameB_self] at this
            clear HR12 HOp HOo HRN HUN
            go_wp2
            have HS2 : Hid (∀ W, Below w8.heap.size w8 W → W.cell? ⟨p9, 0, none⟩ = some (.slice ua un uc) ∧ W.cell? ⟨p12, 0, none⟩ = some (.slice t7 n7 k7)) := fun W hW => ⟨(HS.out W hW).1, (HS.out W hW).2.1⟩
            have HB13 : Hid (Below w8.heap.size w8 w12.drew) := HB12.out.drew
            have HD13 : Hid (Below w12.heap.size w12 w12.drew) := (Below.refl _ _).drew
            clear HS
            refine wp_region_noPanic ?_
            refine wp_region_held_drew (S := (fun w' => w'.cell? ⟨p9, 0, none⟩ = some (.slice ua un uc) ∧ w'.cell? ⟨p12, 0, none⟩ = some (.slice t7 n7 k7))) (by kernel_rfl) ?_ (fun hHeld => ?_)
            · exact HS2.out _ HB13.out
            refine held_take (i := 0) (d := 91) (v := ?_) rfl rfl (by kernel_rfl) (by kernel_rfl) (by kernel_rfl) (fun _ _ _ h => h) (Or.inl ⟨by rfl, ?_⟩) hHeld ?_
            rotate_left
            · (intro w hSw; (try dsimp only at hSw); go_simp; all_goals (with_reducible rfl))
            try simp only [Act.put, List.setIfInBounds_toArray, List.set_cons_zero, List.set_cons_succ]
            refine held_take (i := 1) (d := 92) (v := ?_) rfl rfl (by kernel_rfl) (by kernel_rfl) (by kernel_rfl) (fun _ _ _ h => h) (Or.inl ⟨by rfl, ?_⟩) hHeld ?_
            rotate_left
            · (intro w hSw; (try dsimp only at hSw); go_simp; all_goals (with_reducible rfl))
            try simp only [Act.put, List.setIfInBounds_toArray, List.set_cons_zero, List.set_cons_succ]
            refine held_take (i := 2) (d := 93) (v := ?_) rfl rfl (by kernel_rfl) (by kernel_rfl) (by kernel_rfl) (fun _ _ _ h => h) (Or.inl ⟨by rfl, ?_⟩) hHeld ?_
            rotate_left
            · (intro w hSw; (try dsimp only at hSw); go_simp; all_goals (with_reducible rfl))
            try simp only [Act.put, List.setIfInBounds_toArray, List.set_cons_zero, List.set_cons_succ]
            refine held_take (i := 3) (d := 94) (v := ?_) rfl rfl (by kernel_rfl) (by kernel_rfl) (by kernel_rfl) (fun _ _ _ h => h) (Or.inl ⟨by rfl, ?_⟩) hHeld ?_
            rotate_left
            · (intro w hSw; (try dsimp only at hSw); go_simp; all_goals (with_reducible rfl))
            try simp only [Act.put, List.setIfInBounds_toArray, List.set_cons_zero, List.set_cons_succ]
            refine held_take (i := 5) (d := 96) (v := ?_) rfl rfl (by kernel_rfl) (by kernel_rfl) (by kernel_rfl) (fun _ _ _ h => h) (Or.inl ⟨by rfl, ?_⟩) hHeld ?_
            rotate_left
            · (intro w hSw; (try dsimp only at hSw); go_simp; all_goals (with_reducible rfl))
            try simp only [Act.put, List.setIfInBounds_toArray, List.set_cons_zero, List.set_cons_succ]
            refine wpAnyH_ready (rs := [4]) (by kernel_rfl) (by simp) ?_
            refine AllReadyH.cons rfl (fun K hK => ?_) AllReadyH.nil
            go_simp
            refine (HL4.out _ HB13.out).mono ?_
            clear HL4
            rintro e w14 ⟨b14, n14, c14, rfl, hr14, hb14⟩
            have HB14 : Hid (Below w8.heap.size w8 w14) := HB13.out.trans (hb14.mono HB13.out.size)
            have h14 := HL6.out w14 b14 n14 c14 hr14 (HD13.out.trans (hb14.mono HD13.out.size))
            clear hb14 hr14 HL6
            go_wp2_with fail
            refine hK.out _ _ ?_ (fun hHeld => ?_)
            · exact HS2.out _ HB14.out
            clear hK K
            try simp only [Act.put, List.setIfInBounds_toArray, List.set_cons_zero, List.set_cons_succ]
            refine wpAnyH_ready (rs := [6]) (by kernel_rfl) (by simp) ?_
            refine AllReadyH.cons rfl (fun K hK => ?_) AllReadyH.nil
            go_simp
            refine h14.mono ?_
            clear h14
            rintro e w15' ⟨rfl, qq, rfl⟩
            have HB15 : Hid (Below w8.heap.size w8 (w14.drewN qq)) := below_drewN HB14.out _
            go_wp2_with fail
            refine hK.out _ _ ?_ (fun hHeld => ?_)
            · exact HS2.out _ HB15.out
            clear hK K
            try simp only [Act.put, List.setIfInBounds_toArray, List.set_cons_zero, List.set_cons_succ]
            generalize w14.drewN qq = w15 at *
            refine held_take (i := 7) (d := 98) (v := ?_) rfl rfl (by kernel_rfl) (by kernel_rfl) (by kernel_rfl) (fun _ _ _ h => h) (Or.inl ⟨by rfl, ?_⟩) hHeld ?_
            rotate_left
            · (intro w hSw; (try dsimp only at hSw); go_simp; all_goals (with_reducible rfl))
            try simp only [Act.put, List.setIfInBounds_toArray, List.set_cons_zero, List.set_cons_succ]
            refine held_take (i := 8) (d := 99) (v := ?_) rfl rfl (by kernel_rfl) (by kernel_rfl) (by kernel_rfl) (fun _ _ _ h => h) (Or.inl ⟨by rfl, ?_⟩) hHeld ?_
            rotate_left
            · (intro w hSw; (try dsimp only at hSw); go_simp; all_goals (with_reducible rfl))
            try simp only [Act.put, List.setIfInBounds_toArray, List.set_cons_zero, List.set_cons_succ]
            refine held_take (i := 9) (d := 100) (v := ?_) rfl rfl (by kernel_rfl) (by kernel_rfl) (by kernel_rfl) (fun _ _ _ h => h) (Or.inl ⟨by rfl, ?_⟩) hHeld ?_
            rotate_left
            · (intro w hSw; (try dsimp only at hSw); go_simp; all_goals (with_reducible rfl))
            try simp only [Act.put, List.setIfInBounds_toArray, List.set_cons_zero, List.set_cons_succ]
            refine held_take (i := 10) (d := 101) (v := ?_) rfl rfl (by kernel_rfl) (by kernel_rfl) (by kernel_rfl) (fun _ _ _ h => h) (Or.inl ⟨by rfl, ?_⟩) hHeld ?_
            rotate_left
            · (intro w hSw; (try dsimp only at hSw); go_simp; all_goals (with_reducible rfl))
            try simp only [Act.put, List.setIfInBounds_toArray, List.set_cons_zero, List.set_cons_succ]
            refine held_take (i := 11) (d := 102) (v := ?_) rfl rfl (by kernel_rfl) (by kernel_rfl) (by kernel_rfl) (fun _ _ _ h => h) (Or.inl ⟨by rfl, ?_⟩) hHeld ?_
            rotate_left
            · (intro w hSw; (try dsimp only at hSw); go_simp; all_goals (with_reducible rfl))
            try simp only [Act.put, List.setIfInBounds_toArray, List.set_cons_zero, List.set_cons_succ]
            refine held_take (i := 13) (d := 104) (v := ?_) rfl rfl (by kernel_rfl) (by kernel_rfl) (by kernel_rfl) (fun _ _ _ h => h) (Or.inl ⟨by rfl, ?_⟩) hHeld ?_
            rotate_left
            · (intro w hSw; (try dsimp only at hSw); go_simp; all_goals (with_reducible rfl))
            try simp only [Act.put, List.setIfInBounds_toArray, List.set_cons_zero, List.set_cons_succ]
            refine wpAnyH_ready (rs := [12]) (by kernel_rfl) (by simp) ?_
            refine AllReadyH.cons rfl (fun K hK => ?_) AllReadyH.nil
            go_simp
            refine (HL12.out _ HB15.out).mono ?_
            clear HL12
            rintro e w16 ⟨t16, n16, k16, rfl, ho16, hb16⟩
            have HB16 : Hid (Below w8.heap.size w8 w16) := HB15.out.trans (hb16.mono HB15.out.size)
            have h16 := HL14.out w16 t16 n16 k16 HB16.out ho16
            clear hb16 ho16 HL14
            go_wp2_with fail
            refine hK.out _ _ ?_ (fun hHeld => ?_)
            · exact HS2.out _ HB16.out
            clear hK K
            try simp only [Act.put, List.setIfInBounds_toArray, List.set_cons_zero, List.set_cons_succ]
            refine wpAnyH_ready (rs := [14]) (by kernel_rfl) (by simp) ?_
            refine AllReadyH.cons rfl (fun K hK => ?_) AllReadyH.nil
            go_simp
            refine h16.mono ?_
            clear h16
            rintro e w17 ⟨rfl, hb17⟩
            have HB17 : Hid (Below w8.heap.size w8 w17) := HB16.out.trans (hb17.mono HB16.out.size)
            clear hb17
            go_wp2_with fail
            refine hK.out _ _ ?_ (fun hHeld => ?_)
            · exact HS2.out _ HB17.out
            clear hK K
            try simp only [Act.put, List.setIfInBounds_toArray, List.set_cons_zero, List.set_cons_succ]
            refine held_take (i := 15) (d := 106) (v := ?_) rfl rfl (by kernel_rfl) (by kernel_rfl) (by kernel_rfl) (fun _ _ _ h => h) (Or.inl ⟨by rfl, ?_⟩) hHeld ?_
            rotate_left
            · (intro w hSw; (try dsimp only at hSw); go_simp; all_goals (with_reducible rfl))
            try simp only [Act.put, List.setIfInBounds_toArray, List.set_cons_zero, List.set_cons_succ]
            refine held_take (i := 16) (d := 107) (v := ?_) rfl rfl (by kernel_rfl) (by kernel_rfl) (by kernel_rfl) (fun _ _ _ h => h) (Or.inl ⟨by rfl, ?_⟩) hHeld ?_
            rotate_left
            · (intro w hSw; (try dsimp only at hSw); go_simp; all_goals (with_reducible rfl))
            try simp only [Act.put, List.setIfInBounds_toArray, List.set_cons_zero, List.set_cons_succ]
            refine wpAnyH_ready (rs := [17]) (by kernel_rfl) (by simp) ?_
            refine AllReadyH.cons rfl (fun K hK => ?_) AllReadyH.nil
            go_simp
            refine (awake9_any w17).mono ?_
            rintro e w18 ⟨rfl, hb18⟩
            have HB18 : Hid (Below w8.heap.size w8 w18) := HB17.out.trans (hb18.mono HB17.out.size)
            clear hb18
            go_wp2_with fail
            refine hK.out _ _ ?_ (fun hHeld => ?_)
            · exact HS2.out _ HB18.out
            clear hK K
            try simp only [Act.put, List.setIfInBounds_toArray, List.set_cons_zero, List.set_cons_succ]
            refine held_take (i := 18) (d := 109) (v := ?_) rfl rfl (by kernel_rfl) (by kernel_rfl) (by kernel_rfl) (fun _ _ _ h => h) (Or.inl ⟨by rfl, ?_⟩) hHeld ?_
            rotate_left
            · (intro w hSw; (try dsimp only at hSw); go_simp; all_goals (with_reducible rfl))
            try simp only [Act.put, List.setIfInBounds_toArray, List.set_cons_zero, List.set_cons_succ]
            refine held_take (i := 19) (d := 8) (v := ?_) rfl rfl (by kernel_rfl) (by kernel_rfl) (by kernel_rfl) (fun _ _ _ h => h) (Or.inl ⟨by rfl, ?_⟩) hHeld ?_
            rotate_left
            · (intro w hSw; (try dsimp only at hSw); go_simp; all_goals (with_reducible rfl))
            try simp only [Act.put, List.setIfInBounds_toArray, List.set_cons_zero, List.set_cons_succ]
            refine wpAnyH_done (by kernel_rfl) ?_ _
            refine NoPanic.normal ?_
            go_wp2
            go_ret
            exact ⟨rfl, HFIN.out _ HB18.out⟩

/-! From the call to the statement. -/
set_option maxRecDepth 100000 in
theorem lifted (os : Os) (started : os.Started) (H : Type) (enc : TypeId × Value → H) :
    ReturnsInHanded {} Try.checked os 4 .any (Rows.objectPutSpec.pre6 enc Try.prog Try.f4 Rows.objectPutRow.domain false) (Rows.objectPutSpec.post enc Try.prog Try.f4 false true false false) := by
  refine returnsInHanded_of_change (C := Try.checked) own started (by kernel_rfl) Try.func4
    (ChangeSpec.witness6 (enc := enc) (C := Try.checked) false ⟨#[], #[.slice none 0 0, .int .i64 0, .string ByteArray.empty, .bool false], []⟩ 8 (by kernel_rfl) (by kernel_rfl) (by kernel_rfl) (by kernel_rfl)) ?_
  intro W base args ds gs before hval0 hW hcnd _
  have hval : ∀ (j : Nat) t v, Try.f4.params[j]? = some t → args[j]? = some v → Value.okWide Try.prog W .any base t v := hval0
  have hW' := hW
  obtain ⟨p, q, hA0, hV, rfl, hfz, hnd⟩ := hW
  have hA : DataW.TrodAll enc Try.prog W 0 (fun _ => true) true Try.f4.params.toList args.toList ds p := hA0
  rw [Try.params4] at hA hval
  obtain ⟨v0, vs0, d0, ds0, p0, q0, hargs, rfl, rfl, h0, r0⟩ := trodAll_cons hA
  obtain ⟨v1, vs1, d1, ds1, p1, q1, rfl, rfl, rfl, h1, r1⟩ := trodAll_cons r0
  obtain ⟨v2, vs2, d2, ds2, p2, q2, rfl, rfl, rfl, h2, r2⟩ := trodAll_cons r1
  obtain ⟨v3, vs3, d3, ds3, p3, q3, rfl, rfl, rfl, h3, r3⟩ := trodAll_cons r2
  obtain ⟨rfl, rfl, rfl⟩ := trodAll_nil r3
  obtain rfl : args = #[v0, v1, v2, v3] := by cases args; simp_all
  obtain ⟨rfl, rfl⟩ := trodVars_none hV
  obtain ⟨a0, len0, cap0, rfl⟩ := okWide_slice Try.underlying22 (hval 0 22 v0 rfl rfl)
  have k0 := h0
  have lt0 : ∀ x ∈ p0, x.block < W.heap.size := by obtain ⟨m, hm⟩ := k0; exact DataW.trod_lt m _ _ _ hm
  obtain ⟨z0, w0⟩ := open_vers h0
  obtain ⟨a1, rfl, rfl, rfl, w1⟩ := open_int Try.underlying3 (hval 1 3 v1 rfl rfl) h1
  obtain ⟨a2, rfl, rfl, rfl, w2⟩ := open_string Try.underlying9 (hval 2 9 v2 rfl rfl) h2
  obtain ⟨a3, rfl, rfl, rfl⟩ := open_bool Try.underlying4 (hval 3 4 v3 rfl rfl) h3
  clear hA0 hval0
  refine (walk a0 len0 cap0 z0 a1 a2 a3 W w0 w1 w2).mono fun e W' ⟨he, bel⟩ => ?_
  subst he
  exact ⟨_, rfl, _, _, _, [], _, [], hW', trodAll_mk1 (shut_bool Try.underlying4 _), (trodAll_cons_mk (Below.trod laidOut (by kernel_rfl) (of_decide_eq_true (by kernel_rfl)) k0 bel lt0) (trodAll_cons_mk (shut_int Try.underlying3 w1) (trodAll_cons_mk (shut_string Try.underlying9 w2) (trodAll_cons_mk (shut_bool Try.underlying4 _) trodAll_mk0)))), rfl, bel.frame _, fun h => by cases h⟩

theorem over : Rows.objectPutRow.holds Try.pinned (OpenSpec.ofChange Rows.objectPutSpec) :=
  OpenClaim.holds_of_wide 4 Try.f4 rfl rfl rfl rfl rfl rfl rfl ⟨rfl, rfl, rfl, rfl, rfl⟩ rfl rfl rfl rfl rfl (by kernel_rfl) Try.func4 (by kernel_rfl)
    (of_decide_eq_true (by kernel_rfl)) (by unfold Func.isWrapper; first | (rw [if_pos (by decide +kernel)]; kernel_rfl) | (rw [if_neg (by decide +kernel)]; exact ⟨rfl, rfl⟩))
    (fun os started H enc _ => lifted os started H enc)
end Go.Proofs.Ytmahigfamgbhfaa.objectPut
namespace Go.Proofs.Ytmahigfamgbhfaa
theorem objectPut_holds : Rows.ObjectPutSaid := objectPut.over
#print axioms objectPut_holds
end Go.Proofs.Ytmahigfamgbhfaa
