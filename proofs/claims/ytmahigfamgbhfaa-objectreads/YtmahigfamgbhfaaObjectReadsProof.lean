/-
  For every list of versions and every number: what an object of the first twenty of them is at that number, and without later, and without elder versions, is as the chapter says (the law ObjectReads returns true and leaves its arguments as they were).
-/
import Derived.Test.YtmahigfamgbhfaaRows
import Derived.Test.YtmahigfamgbhfaaObO
import Derived.Test.YtmahigfamgbhfaaObC
import Derived.Test.YtmahigfamgbhfaaObH
import Derived.Test.YtmahigfamgbhfaaObJ
import Derived.WalkKit
import Derived.ProofKit
import Derived.OpenShut
import Derived.ShutString
import Derived.ChangeOld
import Derived.Below
namespace Go.Proofs.Ytmahigfamgbhfaa.objectReads
open Go.ChangeShapes Go.WideShapes Go.ChangeAt Go.RowKit
open Go.ChangeMaps (open_string shut_string)
set_option linter.unusedSimpArgs false
set_option linter.unusedVariables false

theorem own : ownKnob Try.prog.godebug = none := by kernel_rfl
theorem laidOut : laidOutB Try.prog = true := by kernel_rfl

theorem fld25 (a : Option Addr) (n c : Nat) (w : World) : (Instr.field 25 (.agg #[.slice a n c]) 0).run Try.prog w = .ok (.slice a n c) w := by kernel_rfl

/-! The law returns true, and writes nothing that was there. -/
set_option maxRecDepth 100000 in
set_option maxHeartbeats 4000000 in
theorem walk (a0 : Option Addr) (len0 cap0 : Nat) (z0 : List Ver) (a1 : Int) (w : World) (w0 : VRow w a0 len0 z0) (w1 : (Lit.int .i64 a1).wf = true) :
    Calls Try.prog 5 #[.slice a0 len0 cap0, .int .i64 a1] w fun e w' => e = .returned (.bool true) ∧ Below w.heap.size w w' := by
  have hf25 := fld25
  have hshort : (z0.take 20).length ≤ 20 := by simp; omega
  have h1 := ours9_any a0 len0 cap0 z0 w w0
  generalize z0.take 20 = l at *
  go_enter Try.func5, Try.ntmps5
  go_wp2_with fail
  refine h1.mono ?_
  clear h1
  rintro e w1 ⟨u1, rfl, ho1, hb1⟩
  obtain ⟨ua, un, uc, rfl⟩ := ho1.isSlice
  have hB2 : Below w1.heap.size w1 (w1.alloc (.cells #[.slice ua un uc] 25)) := (Below.refl _ _).alloc (Nat.le_refl _) _
  have HB2 : Hid (Below w.heap.size w (w1.alloc (.cells #[.slice ua un uc] 25))) := hb1.trans (hB2.mono hb1.size)
  have HO2 : Hid (Ob (w1.alloc (.cells #[.slice ua un uc] 25)) (.slice ua un uc) l) := ho1.later hB2
  have HV2 : Hid (VarO (w1.alloc (.cells #[.slice ua un uc] 25)) w1.heap.size (.slice ua un uc)) := heap_alloc_new w1 _
  clear hB2 hb1 ho1 w0
  go_upto_region 2 with fail
  generalize w1.alloc (.cells #[.slice ua un uc] 25) = w2 at *
  generalize w1.heap.size = p9 at *
  have q2 := HV2.out.cell
  go_wp2_with fail
  refine (plain9_any _ l w2 HO2.out (by omega)).mono ?_
  rintro e w3 ⟨v3, rfl, ho3, hb3⟩
  obtain ⟨b3, c3, rfl, hr3, -⟩ := ho3.slice
  have HB3 : Hid (Below w2.heap.size w2 w3) := hb3
  have HW3 : Hid (VRow w3 b3 l.length l) := hr3
  clear ho3 hb3 q2
  go_wp2_with fail
  refine (ref_right_any9 b3 l.length c3 l w3 hr3).mono ?_
  clear hr3
  rintro e w4 ⟨rfl, hb4⟩
  have HB4 : Hid (Below w2.heap.size w2 w4) := HB3.out.trans (hb4.mono HB3.out.size)
  have HW4 : Hid (VRow w4 b3 l.length l) := HW3.out.later hb4
  clear hb4
  cases hr : rightL l
  · go_wp2_with fail
    refine (awake9_any w4).mono ?_
    rintro e w6 ⟨rfl, hb6⟩
    go_wp2
    go_ret
    exact ⟨rfl, HB2.out.trans ((HB4.out.trans (hb6.mono HB4.out.size)).mono HB2.out.size)⟩
  · have hri := right_rises hr
    have q4 := (HV2.out.later HB4.out).cell
    have h4 := read_right _ l a1 w4 (HO2.out.later HB4.out) hr
    go_wp2_with fail
    refine h4.mono ?_
    clear h4 q4
    rintro e w5 ⟨rfl, hb5⟩
    have HRV : Hid (∀ w', VRow w' b3 l.length l → Calls Try.prog 25 #[.slice b3 l.length c3, .int .i64 a1] w' fun e w'' => e = .returned (.tuple #[(readV l a1).value, .bool (readB l a1)]) ∧ Below w'.heap.size w' w'') := fun w' h => ref_read_any b3 l.length c3 a1 l w' h hri (by omega)
    generalize readV l a1 = r at *
    generalize readB l a1 = rb at *
    have hb6 : Below w5.heap.size w5 (w5.alloc (.cells #[.int .i64 r.pos, .int .u64 (r.num : Nat), .string r.val, .bool r.gone] 36)) := (Below.refl _ _).alloc (Nat.le_refl _) _
    have HB6 : Hid (Below w2.heap.size w2 (w5.alloc (.cells #[.int .i64 r.pos, .int .u64 (r.num : Nat), .string r.val, .bool r.gone] 36))) := HB4.out.trans ((hb5.trans (hb6.mono hb5.size)).mono HB4.out.size)
    have HW6 : Hid (VRow (w5.alloc (.cells #[.int .i64 r.pos, .int .u64 (r.num : Nat), .string r.val, .bool r.gone] 36)) b3 l.length l) := (HW4.out.later hb5).later hb6
    have HX6 : Hid (VarV (w5.alloc (.cells #[.int .i64 r.pos, .int .u64 (r.num : Nat), .string r.val, .bool r.gone] 36)) w5.heap.size 36 r) := heap_alloc_new w5 _
    clear hb5 hb6
    go_upto_region 6 with fail
    generalize w5.alloc (.cells #[.int .i64 r.pos, .int .u64 (r.num : Nat), .string r.val, .bool r.gone] 36) = w6 at *
    generalize w5.heap.size = p7 at *
    go_wp2_with fail
    refine (HRV.out w6 HW6.out).mono ?_
    rintro e w7 ⟨rfl, hb7⟩
    have hb8 : Below w7.heap.size w7 (w7.alloc (.cells #[.int .i64 r.pos, .int .u64 (r.num : Nat), .string r.val, .bool r.gone] 43)) := (Below.refl _ _).alloc (Nat.le_refl _) _
    have HB8 : Hid (Below w2.heap.size w2 (w7.alloc (.cells #[.int .i64 r.pos, .int .u64 (r.num : Nat), .string r.val, .bool r.gone] 43))) := HB6.out.trans ((hb7.trans (hb8.mono hb7.size)).mono HB6.out.size)
    have HW8 : Hid (VRow (w7.alloc (.cells #[.int .i64 r.pos, .int .u64 (r.num : Nat), .string r.val, .bool r.gone] 43)) b3 l.length l) := (HW6.out.later hb7).later hb8
    have HX8 : Hid (VarV (w7.alloc (.cells #[.int .i64 r.pos, .int .u64 (r.num : Nat), .string r.val, .bool r.gone] 43)) p7 36 r) := (HX6.out.later hb7).later hb8
    have HY8 : Hid (VarV (w7.alloc (.cells #[.int .i64 r.pos, .int .u64 (r.num : Nat), .string r.val, .bool r.gone] 43)) w7.heap.size 43 r) := heap_alloc_new w7 _
    clear hb7 hb8 HX6 HW6
    go_upto_region 7 with fail
    generalize w7.alloc (.cells #[.int .i64 r.pos, .int .u64 (r.num : Nat), .string r.val, .bool r.gone] 43) = w8 at *
    generalize w7.heap.size = p9' at *
    obtain ⟨x0, x1, x2, x3⟩ := HX8.out.cells
    obtain ⟨y0, y1, y2, y3⟩ := HY8.out.cells
    have hq : ∀ w, (binOp .neq 36 r.value r.value).run Try.prog w = .ok (.bool false) w := fun w => by rw [neq_36, eqV_self]; rfl
    have hrb : (rb == rb) = true := by simp
    have q8 := (HV2.out.later HB8.out).cell
    have h8 := dirty_right _ l a1 w8 (HO2.out.later HB8.out) hr
    go_wp2_with fail
    refine h8.mono ?_
    clear h8 x0 x1 x2 x3 y0 y1 y2 y3 hq q8 HX8 HY8
    rintro e w9 ⟨rfl, hb9⟩
    have HB9 : Hid (Below w2.heap.size w2 w9) := HB8.out.trans (hb9.mono HB8.out.size)
    have HW9 : Hid (VRow w9 b3 l.length l) := HW8.out.later hb9
    clear hb9
    have h9 := ref_undo_any b3 l.length c3 a1 l w9 HW9.out (by omega)
    rw [undo_filter hri a1] at h9
    go_wp2_with fail
    refine h9.mono ?_
    clear h9
    rintro e w10 ⟨v10, rfl, ho10, hb10⟩
    obtain ⟨b10, c10, rfl, hr10, -⟩ := ho10.slice
    have HB10 : Hid (Below w2.heap.size w2 w10) := HB9.out.trans (hb10.mono HB9.out.size)
    have HW10 : Hid (VRow w10 b3 l.length l) := HW9.out.later hb10
    clear hb10 hr10 ho10
    have hul : (undoL l a1).length = upTo l a1 := (read_undo a1).1
    rw [hul]
    have hule := upTo_le l a1
    have hdd : (decide (upTo l a1 < l.length) == decide ((upTo l a1 : Int) < (l.length : Int))) = true := by
      by_cases hh : upTo l a1 < l.length
      · simp [hh]
      · simp [hh]
    have HUL : Hid (upTo l a1 ≤ l.length) := hule
    have q10 := (HV2.out.later HB10.out).cell
    have h10 := undo_right _ l a1 w10 (HO2.out.later HB10.out) hr
    generalize upTo l a1 = cu at hdd ⊢
    clear hule hul
    have HUN : Hid ((undoL l a1).length ≤ 20) := by show (undoL l a1).length ≤ 20; unfold undoL; rw [List.length_take]; omega
    by_cases hcu : cu < l.length
    · have hcz : (cu : Int) < (l.length : Int) := by omega
      go_wp2_with fail
      refine h10.mono ?_
      clear h10 q10 hdd
      rintro e w11 ⟨u11, rfl, ho11, hb11⟩
      obtain ⟨t11, n11, k11, rfl⟩ := ho11.isSlice
      have HB11 : Hid (Below w2.heap.size w2 w11) := HB10.out.trans (hb11.mono HB10.out.size)
      have HW11 : Hid (VRow w11 b3 l.length l) := HW10.out.later hb11
      have h11 := plain9_any _ (undoL l a1) w11 ho11 (by have := HUN.out; omega)
      clear hb11 ho11
      go_wp2_with fail
      refine h11.mono ?_
      clear h11
      rintro e w12 ⟨v12, rfl, ho12, hb12⟩
      obtain ⟨b12, c12, rfl, hr12, -⟩ := ho12.slice
      have HR12 : Hid (VRow w12 b12 (undoL l a1).length (undoL l a1)) := hr12
      have HB12 : Hid (Below w2.heap.size w2 w12) := HB11.out.trans (hb12.mono HB11.out.size)
      have HW12 : Hid (VRow w12 b3 l.length l) := HW11.out.later hb12
      have h12 := ref_undo_any b3 l.length c3 a1 l w12 HW12.out (by omega)
      rw [undo_filter hri a1] at h12
      clear hb12 ho12 hr12
      go_wp2_with fail
      refine h12.mono ?_
      clear h12
      rintro e w13 ⟨v13, rfl, ho13, hb13⟩
      obtain ⟨b13, c13, rfl, hr13, -⟩ := ho13.slice
      have HB13 : Hid (Below w2.heap.size w2 w13) := HB12.out.trans (hb13.mono HB12.out.size)
      have HW13 : Hid (VRow w13 b3 l.length l) := HW12.out.later hb13
      have h13 := ref_same_any b12 b13 _ _ c12 c13 (undoL l a1) (undoL l a1) w13 (HR12.out.later hb13) hr13
      rw [sameB_self] at h13
      clear hb13 ho13 hr13
      generalize (undoL l a1).length = lu at *
      go_wp2_with fail
      refine h13.mono ?_
      clear h13
      rintro e w14' ⟨rfl, qq, rfl⟩
      have HB14 : Hid (Below w2.heap.size w2 (w13.drewN qq)) := below_drewN HB13.out _
      have HW14 : Hid (VRow (w13.drewN qq) b3 l.length l) := HW13.out
      generalize w13.drewN qq = w14 at *
      have q14 := (HV2.out.later HB14.out).cell
      have h14 := clean_right _ l a1 w14 (HO2.out.later HB14.out) hr
      have HCN : Hid ((cleanL l a1).length ≤ 20) := by show (cleanL l a1).length ≤ 20; unfold cleanL; rw [List.length_drop]; omega
      go_wp2_with fail
      refine h14.mono ?_
      clear h14 q14
      rintro e w15 ⟨u15, rfl, ho15, hb15⟩
      obtain ⟨t15, n15, k15, rfl⟩ := ho15.isSlice
      have HB15 : Hid (Below w2.heap.size w2 w15) := HB14.out.trans (hb15.mono HB14.out.size)
      have HW15 : Hid (VRow w15 b3 l.length l) := HW14.out.later hb15
      have h15 := plain9_any _ (cleanL l a1) w15 ho15 (by have := HCN.out; omega)
      clear hb15 ho15
      go_wp2_with fail
      refine h15.mono ?_
      clear h15
      rintro e w16 ⟨v16, rfl, ho16, hb16⟩
      obtain ⟨b16, c16, rfl, hr16, -⟩ := ho16.slice
      have HR16 : Hid (VRow w16 b16 (cleanL l a1).length (cleanL l a1)) := hr16
      have HB16 : Hid (Below w2.heap.size w2 w16) := HB15.out.trans (hb16.mono HB15.out.size)
      have HW16 : Hid (VRow w16 b3 l.length l) := HW15.out.later hb16
      have h16 := ref_clean_any b3 l.length c3 a1 l w16 HW16.out hri (by omega)
      clear hb16 ho16 hr16
      go_wp2_with fail
      refine h16.mono ?_
      clear h16
      rintro e w17 ⟨v17, rfl, ho17, hb17⟩
      obtain ⟨b17, c17, rfl, hr17, -⟩ := ho17.slice
      have HB17 : Hid (Below w2.heap.size w2 w17) := HB16.out.trans (hb17.mono HB16.out.size)
      have h17 := ref_same_any b16 b17 _ _ c16 c17 (cleanL l a1) (cleanL l a1) w17 (HR16.out.later hb17) hr17
      rw [sameB_self] at h17
      clear hb17 ho17 hr17
      generalize (cleanL l a1).length = lc at *
      go_wp2_with fail
      refine h17.mono ?_
      clear h17
      rintro e w18' ⟨rfl, qr, rfl⟩
      have HB18 : Hid (Below w2.heap.size w2 (w17.drewN qr)) := below_drewN HB17.out _
      generalize w17.drewN qr = w18 at *
      go_wp2_with fail
      refine (awake9_any w18).mono ?_
      rintro e w19 ⟨rfl, hb19⟩
      go_wp2
      go_ret
      exact ⟨rfl, HB2.out.trans ((HB18.out.trans (hb19.mono HB18.out.size)).mono HB2.out.size)⟩
    · have hcz : ¬ (cu : Int) < (l.length : Int) := by omega
      go_wp2_with fail
      refine h10.mono ?_
      clear h10 q10 hdd
      rintro e w11 ⟨u11, rfl, ho11, hb11⟩
      obtain ⟨t11, n11, k11, rfl⟩ := ho11.isSlice
      have HB11 : Hid (Below w2.heap.size w2 w11) := HB10.out.trans (hb11.mono HB10.out.size)
      have HW11 : Hid (VRow w11 b3 l.length l) := HW10.out.later hb11
      have h11 := plain9_any _ (undoL l a1) w11 ho11 (by have := HUN.out; omega)
      clear hb11 ho11
      go_wp2_with fail
      refine h11.mono ?_
      clear h11
      rintro e w12 ⟨v12, rfl, ho12, hb12⟩
      obtain ⟨b12, c12, rfl, hr12, -⟩ := ho12.slice
      have HR12 : Hid (VRow w12 b12 (undoL l a1).length (undoL l a1)) := hr12
      have HB12 : Hid (Below w2.heap.size w2 w12) := HB11.out.trans (hb12.mono HB11.out.size)
      have HW12 : Hid (VRow w12 b3 l.length l) := HW11.out.later hb12
      have h12 := ref_undo_any b3 l.length c3 a1 l w12 HW12.out (by omega)
      rw [undo_filter hri a1] at h12
      clear hb12 ho12 hr12
      go_wp2_with fail
      refine h12.mono ?_
      clear h12
      rintro e w13 ⟨v13, rfl, ho13, hb13⟩
      obtain ⟨b13, c13, rfl, hr13, -⟩ := ho13.slice
      have HB13 : Hid (Below w2.heap.size w2 w13) := HB12.out.trans (hb13.mono HB12.out.size)
      have HW13 : Hid (VRow w13 b3 l.length l) := HW12.out.later hb13
      have h13 := ref_same_any b12 b13 _ _ c12 c13 (undoL l a1) (undoL l a1) w13 (HR12.out.later hb13) hr13
      rw [sameB_self] at h13
      clear hb13 ho13 hr13
      generalize (undoL l a1).length = lu at *
      go_wp2_with fail
      refine h13.mono ?_
      clear h13
      rintro e w14' ⟨rfl, qq, rfl⟩
      have HB14 : Hid (Below w2.heap.size w2 (w13.drewN qq)) := below_drewN HB13.out _
      have HW14 : Hid (VRow (w13.drewN qq) b3 l.length l) := HW13.out
      generalize w13.drewN qq = w14 at *
      have q14 := (HV2.out.later HB14.out).cell
      have h14 := clean_right _ l a1 w14 (HO2.out.later HB14.out) hr
      have HCN : Hid ((cleanL l a1).length ≤ 20) := by show (cleanL l a1).length ≤ 20; unfold cleanL; rw [List.length_drop]; omega
      go_wp2_with fail
      refine h14.mono ?_
      clear h14 q14
      rintro e w15 ⟨u15, rfl, ho15, hb15⟩
      obtain ⟨t15, n15, k15, rfl⟩ := ho15.isSlice
      have HB15 : Hid (Below w2.heap.size w2 w15) := HB14.out.trans (hb15.mono HB14.out.size)
      have HW15 : Hid (VRow w15 b3 l.length l) := HW14.out.later hb15
      have h15 := plain9_any _ (cleanL l a1) w15 ho15 (by have := HCN.out; omega)
      clear hb15 ho15
      go_wp2_with fail
      refine h15.mono ?_
      clear h15
      rintro e w16 ⟨v16, rfl, ho16, hb16⟩
      obtain ⟨b16, c16, rfl, hr16, -⟩ := ho16.slice
      have HR16 : Hid (VRow w16 b16 (cleanL l a1).length (cleanL l a1)) := hr16
      have HB16 : Hid (Below w2.heap.size w2 w16) := HB15.out.trans (hb16.mono HB15.out.size)
      have HW16 : Hid (VRow w16 b3 l.length l) := HW15.out.later hb16
      have h16 := ref_clean_any b3 l.length c3 a1 l w16 HW16.out hri (by omega)
      clear hb16 ho16 hr16
      go_wp2_with fail
      refine h16.mono ?_
      clear h16
      rintro e w17 ⟨v17, rfl, ho17, hb17⟩
      obtain ⟨b17, c17, rfl, hr17, -⟩ := ho17.slice
      have HB17 : Hid (Below w2.heap.size w2 w17) := HB16.out.trans (hb17.mono HB16.out.size)
      have h17 := ref_same_any b16 b17 _ _ c16 c17 (cleanL l a1) (cleanL l a1) w17 (HR16.out.later hb17) hr17
      rw [sameB_self] at h17
      clear hb17 ho17 hr17
      generalize (cleanL l a1).length = lc at *
      go_wp2_with fail
      refine h17.mono ?_
      clear h17
      rintro e w18' ⟨rfl, qr, rfl⟩
      have HB18 : Hid (Below w2.heap.size w2 (w17.drewN qr)) := below_drewN HB17.out _
      generalize w17.drewN qr = w18 at *
      go_wp2_with fail
      refine (awake9_any w18).mono ?_
      rintro e w19 ⟨rfl, hb19⟩
      go_wp2
      go_ret
      exact ⟨rfl, HB2.out.trans ((HB18.out.trans (hb19.mono HB18.out.size)).mono HB2.out.size)⟩

/-! From the call to the statement. -/
set_option maxRecDepth 100000 in
theorem lifted (os : Os) (started : os.Started) (H : Type) (enc : TypeId × Value → H) :
    ReturnsInHanded {} Try.checked os 5 .any (Rows.objectReadsSpec.pre6 enc Try.prog Try.f5 Rows.objectReadsRow.domain false) (Rows.objectReadsSpec.post enc Try.prog Try.f5 false true false false) := by
  refine returnsInHanded_of_change (C := Try.checked) own started (by kernel_rfl) Try.func5
    (ChangeSpec.witness6 (enc := enc) (C := Try.checked) false ⟨#[], #[.slice none 0 0, .int .i64 0], []⟩ 8 (by kernel_rfl) (by kernel_rfl) (by kernel_rfl) (by kernel_rfl)) ?_
  intro W base args ds gs before hval0 hW hcnd _
  have hval : ∀ (j : Nat) t v, Try.f5.params[j]? = some t → args[j]? = some v → Value.okWide Try.prog W .any base t v := hval0
  have hW' := hW
  obtain ⟨p, q, hA0, hV, rfl, hfz, hnd⟩ := hW
  have hA : DataW.TrodAll enc Try.prog W 0 (fun _ => true) true Try.f5.params.toList args.toList ds p := hA0
  rw [Try.params5] at hA hval
  obtain ⟨v0, vs0, d0, ds0, p0, q0, hargs, rfl, rfl, h0, r0⟩ := trodAll_cons hA
  obtain ⟨v1, vs1, d1, ds1, p1, q1, rfl, rfl, rfl, h1, r1⟩ := trodAll_cons r0
  obtain ⟨rfl, rfl, rfl⟩ := trodAll_nil r1
  obtain rfl : args = #[v0, v1] := by cases args; simp_all
  obtain ⟨rfl, rfl⟩ := trodVars_none hV
  obtain ⟨a0, len0, cap0, rfl⟩ := okWide_slice Try.underlying22 (hval 0 22 v0 rfl rfl)
  have k0 := h0
  have lt0 : ∀ x ∈ p0, x.block < W.heap.size := by obtain ⟨m, hm⟩ := k0; exact DataW.trod_lt m _ _ _ hm
  obtain ⟨z0, w0⟩ := open_vers h0
  obtain ⟨a1, rfl, rfl, rfl, w1⟩ := open_int Try.underlying3 (hval 1 3 v1 rfl rfl) h1
  clear hA0 hval0
  refine (walk a0 len0 cap0 z0 a1 W w0 w1).mono fun e W' ⟨he, bel⟩ => ?_
  subst he
  exact ⟨_, rfl, _, _, _, [], _, [], hW', trodAll_mk1 (shut_bool Try.underlying4 _), (trodAll_cons_mk (Below.trod laidOut (by kernel_rfl) (of_decide_eq_true (by kernel_rfl)) k0 bel lt0) (trodAll_cons_mk (shut_int Try.underlying3 w1) trodAll_mk0)), rfl, bel.frame _, fun h => by cases h⟩

theorem over : Rows.objectReadsRow.holds Try.pinned (OpenSpec.ofChange Rows.objectReadsSpec) :=
  OpenClaim.holds_of_wide 5 Try.f5 rfl rfl rfl rfl rfl rfl rfl ⟨rfl, rfl, rfl, rfl, rfl⟩ rfl rfl rfl rfl rfl (by kernel_rfl) Try.func5 (by kernel_rfl)
    (of_decide_eq_true (by kernel_rfl)) (by unfold Func.isWrapper; first | (rw [if_pos (by decide +kernel)]; kernel_rfl) | (rw [if_neg (by decide +kernel)]; exact ⟨rfl, rfl⟩))
    (fun os started H enc _ => lifted os started H enc)
end Go.Proofs.Ytmahigfamgbhfaa.objectReads
namespace Go.Proofs.Ytmahigfamgbhfaa
theorem objectReads_holds : Rows.ObjectReadsSaid := objectReads.over
#print axioms objectReads_holds
end Go.Proofs.Ytmahigfamgbhfaa
