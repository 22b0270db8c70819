/-
  For any calls, one more, another key, any number: what is put under one key changes nothing under another one
-/
import Derived.Test.YtmahigfamgbhfaaRows
import Derived.Test.YtmahigfamgbhfaaSpW
import Derived.WalkKit
import Derived.ProofKit
import Derived.OpenShut
import Derived.ShutString
import Derived.ChangeOld
import Derived.Below
namespace Go.Proofs.Ytmahigfamgbhfaa.spaceApart
open Go.ChangeShapes Go.WideShapes Go.ChangeAt Go.RowKit
open Go.ChangeMaps (open_string shut_string)
set_option linter.unusedSimpArgs false
set_option linter.unusedVariables false

theorem own : ownKnob Try.prog.godebug = none := by kernel_rfl
theorem laidOut : laidOutB Try.prog = true := by kernel_rfl

/-! The law returns true, and writes nothing that was there. -/
set_option maxRecDepth 100000 in
set_option maxHeartbeats 8000000 in
theorem walk (a0 : Option Addr) (len0 cap0 : Nat) (O0 : Nat → Sop) (kd1 : Int) (ky1 : ByteArray) (p1 : Int) (vl1 : ByteArray) (gn1 : Bool) (a2 : ByteArray) (a3 : Int) (w : World) (w0 : Sops w a0 len0 O0) (hkd1 : (Lit.int .i64 kd1).wf = true) (hky1 : ky1.size ≤ maxLen) (hp1 : (Lit.int .i64 p1).wf = true) (hvl1 : vl1.size ≤ maxLen) (w2 : a2.size ≤ maxLen) (w3 : (Lit.int .i64 a3).wf = true) :
    Calls Try.prog 8 #[.slice a0 len0 cap0, sop kd1 ky1 p1 vl1 gn1, .string a2, .int .i64 a3] w fun e w' => e = .returned (.bool true) ∧ Below w.heap.size w w' := by
  have ha2 := w2
  have ha3 := w3
  clear w2 w3
  have HB0 : Hid (Below w.heap.size w (w.alloc (.cells #[.int .i64 kd1, .string ky1, .int .i64 p1, .string vl1, .bool gn1] 61))) := (Below.refl _ _).alloc (Nat.le_refl _) _
  have hvx : (w.alloc (.cells #[.int .i64 kd1, .string ky1, .int .i64 p1, .string vl1, .bool gn1] 61)).heap[w.heap.size]? = some (.cells #[.int .i64 kd1, .string ky1, .int .i64 p1, .string vl1, .bool gn1] 61) := heap_alloc_new w _
  have HY : Hid ((w.alloc (.cells #[.int .i64 kd1, .string ky1, .int .i64 p1, .string vl1, .bool gn1] 61)).cell? ⟨w.heap.size, 1, none⟩ = some (.string ky1) ∧ (w.alloc (.cells #[.int .i64 kd1, .string ky1, .int .i64 p1, .string vl1, .bool gn1] 61)).cell? ⟨w.heap.size, 2, none⟩ = some (.int .i64 p1) ∧ (w.alloc (.cells #[.int .i64 kd1, .string ky1, .int .i64 p1, .string vl1, .bool gn1] 61)).cell? ⟨w.heap.size, 3, none⟩ = some (.string vl1) ∧ (w.alloc (.cells #[.int .i64 kd1, .string ky1, .int .i64 p1, .string vl1, .bool gn1] 61)).cell? ⟨w.heap.size, 4, none⟩ = some (.bool gn1)) := ⟨cell_of_heap hvx rfl, cell_of_heap hvx rfl, cell_of_heap hvx rfl, cell_of_heap hvx rfl⟩
  have HSZ : Hid ((w.alloc (.cells #[.int .i64 kd1, .string ky1, .int .i64 p1, .string vl1, .bool gn1] 61)).heap.size = w.heap.size + 1) := World.size_alloc _ _
  have HO : Hid (Sops w a0 len0 O0) := w0
  have hlen : len0 ≤ 9223372036854775807 := by have := w0.1; unfold maxLen at this; omega
  clear hvx w0
  go_enter Try.func8, Try.ntmps8
  go_wp2_with fail
  refine (new_any _).mono ?_
  rintro e w2 ⟨g, bm, rfl, hsp, hb2, hg, hbm⟩
  have HP : Hid (w.heap.size ≠ bm ∧ w.heap.size < bm) := by
    have := HSZ.out
    exact ⟨by omega, by omega⟩
  have HB3 : Hid (Below w2.heap.size w2 (w2.alloc (.cells #[.slice none 0 0] 59))) := (Below.refl _ _).alloc (Nat.le_refl _) _
  have HST : Hid (St 0 (w2.alloc (.cells #[.slice none 0 0] 59)) g bm w2.heap.size (fun _ => []) []) := ⟨⟨0, _, hsp.later HB3.out, by omega⟩, ⟨none, 0, 0, heap_alloc_new w2 _, ⟨rfl, by omega, .inl rfl⟩, fun _ => rfl⟩, by simp, List.Pairwise.nil, fun s => rfl, fun s => ⟨by simp, by simp⟩⟩
  have HG : Hid (w.heap.size ≠ w2.heap.size ∧ w.heap.size < w2.heap.size) := by
    have h1 := HSZ.out
    have h2 := hb2.size
    exact ⟨by omega, by omega⟩
  have HB4 : Hid (Below (w.heap.size + 1) (w.alloc (.cells #[.int .i64 kd1, .string ky1, .int .i64 p1, .string vl1, .bool gn1] 61)) (w2.alloc (.cells #[.slice none 0 0] 59))) := by
    have h1 := hb2
    rw [HSZ.out] at h1
    exact h1.trans (HB3.out.mono (by have := hb2.size; have h2 := HSZ.out; omega))
  have HB5 : Hid (Below w.heap.size w (w2.alloc (.cells #[.slice none 0 0] 59))) := HB0.out.trans (HB4.out.mono (by omega))
  have HY4 : Hid ((w2.alloc (.cells #[.slice none 0 0] 59)).cell? ⟨w.heap.size, 1, none⟩ = some (.string ky1) ∧ (w2.alloc (.cells #[.slice none 0 0] 59)).cell? ⟨w.heap.size, 2, none⟩ = some (.int .i64 p1) ∧ (w2.alloc (.cells #[.slice none 0 0] 59)).cell? ⟨w.heap.size, 3, none⟩ = some (.string vl1) ∧ (w2.alloc (.cells #[.slice none 0 0] 59)).cell? ⟨w.heap.size, 4, none⟩ = some (.bool gn1)) := by
    have e : ∀ o, (w2.alloc (.cells #[.slice none 0 0] 59)).cell? ⟨w.heap.size, o, none⟩ = (w.alloc (.cells #[.int .i64 kd1, .string ky1, .int .i64 p1, .string vl1, .bool gn1] 61)).cell? ⟨w.heap.size, o, none⟩ := fun o => World.cell?_of_block (HB4.out.block _ (Nat.lt_succ_self _))
    obtain ⟨q1, q2, q3, q4⟩ := HY.out
    exact ⟨(e _).trans q1, (e _).trans q2, (e _).trans q3, (e _).trans q4⟩
  have HO4 : Hid (Sops (w2.alloc (.cells #[.slice none 0 0] 59)) a0 len0 O0) := HO.out.later HB5.out
  have HOB : Hid (∀ b off, a0 = some ⟨b, off, none⟩ → 0 < len0 → b < w.heap.size) := by
    intro b off e hn
    obtain ⟨b', off', e', hc⟩ := HO.out.at hn
    rw [e] at e'
    simp only [Option.some.injEq, Addr.mk.injEq] at e'
    obtain ⟨rfl, _⟩ := e'
    exact World.block_lt_of_cell? w _ (hc 0 hn).2.1
  clear hsp hb2 hg hbm HB3 HB4 HO HY HSZ HB0
  go_upto_region 2 with fail
  generalize w2.alloc (.cells #[.slice none 0 0] 59) = w3 at *
  generalize w2.heap.size = gr at *
  go_wp2
  go_loopw [23] (fun s23 wr => ∃ k c : Nat, s23 = .int .i64 (k : Nat) ∧ k ≤ len0 ∧ c ≤ k ∧ c ≤ 15 ∧ Hid (∃ F L, St c wr g bm gr F L) ∧ Hid (Two bm gr w3 wr)) (fun s23 _ => len0 - (intOf s23).toNat)
  case atStart => exact ⟨0, 0, rfl, by omega, by omega, by omega, ⟨_, _, HST.out⟩, Two.refl _ _ _⟩
  case round =>
    obtain ⟨k, c, rfl, hk, hck, hc15, HF, HT⟩ := hrel
    by_cases hlt : k < len0
    · obtain ⟨b, off, rfl, hc⟩ := HO4.out.at (by omega)
      obtain ⟨hok, d0', d1', d2', d3', d4'⟩ := hc k hlt
      have hbl := HOB.out b off rfl (by omega)
      have n1 : b ≠ bm := by have := HP.out.2; omega
      have n2 : b ≠ gr := by have := HG.out.2; omega
      have d0 := two_cell HT.out d0' n1 n2
      have d1 := two_cell HT.out d1' n1 n2
      have d2 := two_cell HT.out d2' n1 n2
      have d3 := two_cell HT.out d3' n1 n2
      have d4 := two_cell HT.out d4' n1 n2
      have HOK : Hid (O0 k).ok := hok
      clear hc hok d0' d1' d2' d3' d4'
      generalize O0 k = u at *
      have HX : Hid (Below wr.heap.size wr (wr.alloc (.cells #[.int .i64 u.kind, .string u.key, .int .i64 u.pos, .string u.val, .bool u.gone] 61))) := (Below.refl _ _).alloc (Nat.le_refl _) _
      by_cases h15 : k < 15
      · obtain ⟨F, L, hst⟩ := HF.out
        have h1 := step_any c g bm gr F L u.kind u.key u.pos u.val u.gone _ (hst.later HX.out) (by omega) HOK.out.pos HOK.out.key HOK.out.val
        clear hst
        go_wp2_with fail
        refine h1.mono ?_
        clear h1
        rintro e w5 ⟨rfl, hst5, ht5⟩
        have HST5 : Hid (∃ F L, St (c + 1) w5 g bm gr F L) := hst5
        have HT5 : Hid (Two bm gr w3 w5) := HT.out.trans ((Two.of_below HX.out).trans ht5)
        clear hst5 ht5
        go_wp2
        go_roundw
        case rel => exact ⟨k + 1, c + 1, by go_num, by omega, by omega, by omega, HST5, HT5⟩
        case measure => simp [intOf]; omega
      · have HF5 : Hid (∃ F L, St c (wr.alloc (.cells #[.int .i64 u.kind, .string u.key, .int .i64 u.pos, .string u.val, .bool u.gone] 61)) g bm gr F L) := by
          obtain ⟨F, L, hst⟩ := HF.out
          exact ⟨F, L, hst.later HX.out⟩
        have HT5 : Hid (Two bm gr w3 (wr.alloc (.cells #[.int .i64 u.kind, .string u.key, .int .i64 u.pos, .string u.val, .bool u.gone] 61))) := HT.out.trans (Two.of_below HX.out)
        go_wp2
        go_roundw
        case rel => exact ⟨k + 1, c, by go_num, by omega, by omega, by omega, HF5, HT5⟩
        case measure => simp [intOf]; omega
    · obtain ⟨F, L, hst⟩ := HF.out
      obtain ⟨n, D, hsp, hn⟩ := hst.sp
      have HS : Hid (St c wr g bm gr F L) := hst
      have h1 := sread_any g bm n D F a2 a3 wr hsp ha2
      clear hst hsp
      go_wp2_with fail
      refine h1.mono ?_
      clear h1
      rintro e w4 ⟨rfl, hb4⟩
      have HB4 : Hid (Below w4.heap.size w4 (w4.alloc (.cells #[.int .i64 (readV (F a2) a3).pos, .int .u64 ((readV (F a2) a3).num : Nat), .string (readV (F a2) a3).val, .bool (readV (F a2) a3).gone] 36))) := (Below.refl _ _).alloc (Nat.le_refl _) _
      have HS5 : Hid (St c (w4.alloc (.cells #[.int .i64 (readV (F a2) a3).pos, .int .u64 ((readV (F a2) a3).num : Nat), .string (readV (F a2) a3).val, .bool (readV (F a2) a3).gone] 36)) g bm gr F L) := (HS.out.later hb4).later HB4.out
      have HT5 : Hid (Two bm gr w3 (w4.alloc (.cells #[.int .i64 (readV (F a2) a3).pos, .int .u64 ((readV (F a2) a3).num : Nat), .string (readV (F a2) a3).val, .bool (readV (F a2) a3).gone] 36))) := HT.out.trans ((Two.of_below hb4).trans (Two.of_below HB4.out))
      have HV5 : Hid (VarV (w4.alloc (.cells #[.int .i64 (readV (F a2) a3).pos, .int .u64 ((readV (F a2) a3).num : Nat), .string (readV (F a2) a3).val, .bool (readV (F a2) a3).gone] 36)) w4.heap.size 36 (readV (F a2) a3)) := heap_alloc_new w4 _
      have HPV : Hid (w4.heap.size ≠ bm ∧ w4.heap.size ≠ gr) := by
        obtain ⟨n', D', h1, _⟩ := (HS.out.later hb4).sp
        obtain ⟨es, cl, hb, _⟩ := h1.map
        have h2 := (Array.getElem?_eq_some_iff.1 hb).1
        have h3 := (HS.out.later hb4).rs.lt
        exact ⟨by omega, by omega⟩
      clear hb4 HB4 HT HS HF
      go_upto_region 9 with fail
      generalize w4.alloc (.cells #[.int .i64 (readV (F a2) a3).pos, .int .u64 ((readV (F a2) a3).num : Nat), .string (readV (F a2) a3).val, .bool (readV (F a2) a3).gone] 36) = w5 at *
      generalize w4.heap.size = pv at *
      obtain ⟨n5, D5, hsp5, hn5⟩ := HS5.out.sp
      have h1 := snum_any g bm n5 D5 F a2 w5 hsp5 ha2
      clear hsp5
      go_wp2_with fail
      refine h1.mono ?_
      clear h1
      rintro e w6 ⟨rfl, hb6⟩
      have HS6 : Hid (St c w6 g bm gr F L) := HS5.out.later hb6
      have HT6 : Hid (Two bm gr w3 w6) := HT5.out.trans (Two.of_below hb6)
      have HV6 : Hid (VarV w6 pv 36 (readV (F a2) a3)) := HV5.out.later hb6
      have q1 := two_cell HT6.out HY4.out.1 HP.out.1 HG.out.1
      have q2 := two_cell HT6.out HY4.out.2.1 HP.out.1 HG.out.1
      have q3 := two_cell HT6.out HY4.out.2.2.1 HP.out.1 HG.out.1
      have q4 := two_cell HT6.out HY4.out.2.2.2 HP.out.1 HG.out.1
      clear hb6 HS5 HT5 HV5
      have h1 := sput_all c g bm gr F L ky1 p1 vl1 gn1 w6 HS6.out (by omega) hky1 hp1 hvl1
      obtain ⟨ci, hci⟩ : ∃ ci, code (okP (F ky1) ky1 p1 vl1 gn1) = .int .i64 ci := ⟨_, rfl⟩
      rw [hci] at h1
      go_wp2_with fail
      refine h1.mono ?_
      clear h1 q1 q2 q3 q4
      rintro e w7 ⟨rfl, ⟨n7, D7, hsp7, hn7⟩, hrs7, ht7⟩
      have HT7 : Hid (Two bm gr w3 w7) := HT6.out.trans ht7
      have HV7 : Hid (VarV w7 pv 36 (readV (F a2) a3)) := (ht7.block pv HV6.out.lt HPV.out.1 HPV.out.2).trans HV6.out
      have HSP7 : Hid (Sp w7 g bm n7 D7 (putF F ky1 p1 vl1 gn1)) := hsp7
      have h1 := sread_any g bm n7 D7 (putF F ky1 p1 vl1 gn1) a2 a3 w7 hsp7 ha2
      clear hsp7 hrs7 ht7 HS6 HT6 HV6
      go_wp2_with fail
      refine h1.mono ?_
      clear h1
      rintro e w8 ⟨rfl, hb8⟩
      have HB8 : Hid (Below w8.heap.size w8 (w8.alloc (.cells #[.int .i64 (readV (putF F ky1 p1 vl1 gn1 a2) a3).pos, .int .u64 ((readV (putF F ky1 p1 vl1 gn1 a2) a3).num : Nat), .string (readV (putF F ky1 p1 vl1 gn1 a2) a3).val, .bool (readV (putF F ky1 p1 vl1 gn1 a2) a3).gone] 36))) := (Below.refl _ _).alloc (Nat.le_refl _) _
      have HT9 : Hid (Two bm gr w3 (w8.alloc (.cells #[.int .i64 (readV (putF F ky1 p1 vl1 gn1 a2) a3).pos, .int .u64 ((readV (putF F ky1 p1 vl1 gn1 a2) a3).num : Nat), .string (readV (putF F ky1 p1 vl1 gn1 a2) a3).val, .bool (readV (putF F ky1 p1 vl1 gn1 a2) a3).gone] 36))) := HT7.out.trans ((Two.of_below hb8).trans (Two.of_below HB8.out))
      have HV9 : Hid (VarV (w8.alloc (.cells #[.int .i64 (readV (putF F ky1 p1 vl1 gn1 a2) a3).pos, .int .u64 ((readV (putF F ky1 p1 vl1 gn1 a2) a3).num : Nat), .string (readV (putF F ky1 p1 vl1 gn1 a2) a3).val, .bool (readV (putF F ky1 p1 vl1 gn1 a2) a3).gone] 36)) pv 36 (readV (F a2) a3)) := (HV7.out.later hb8).later HB8.out
      have HU9 : Hid (VarV (w8.alloc (.cells #[.int .i64 (readV (putF F ky1 p1 vl1 gn1 a2) a3).pos, .int .u64 ((readV (putF F ky1 p1 vl1 gn1 a2) a3).num : Nat), .string (readV (putF F ky1 p1 vl1 gn1 a2) a3).val, .bool (readV (putF F ky1 p1 vl1 gn1 a2) a3).gone] 36)) w8.heap.size 36 (readV (putF F ky1 p1 vl1 gn1 a2) a3)) := heap_alloc_new w8 _
      have HSP9 : Hid (Sp (w8.alloc (.cells #[.int .i64 (readV (putF F ky1 p1 vl1 gn1 a2) a3).pos, .int .u64 ((readV (putF F ky1 p1 vl1 gn1 a2) a3).num : Nat), .string (readV (putF F ky1 p1 vl1 gn1 a2) a3).val, .bool (readV (putF F ky1 p1 vl1 gn1 a2) a3).gone] 36)) g bm n7 D7 (putF F ky1 p1 vl1 gn1)) := (HSP7.out.later hb8).later HB8.out
      clear hb8 HB8 HT7 HV7 HSP7
      go_upto_region 12 with fail
      generalize w8.alloc (.cells #[.int .i64 (readV (putF F ky1 p1 vl1 gn1 a2) a3).pos, .int .u64 ((readV (putF F ky1 p1 vl1 gn1 a2) a3).num : Nat), .string (readV (putF F ky1 p1 vl1 gn1 a2) a3).val, .bool (readV (putF F ky1 p1 vl1 gn1 a2) a3).gone] 36) = w9 at *
      generalize w8.heap.size = pw at *
      have q1 := two_cell HT9.out HY4.out.1 HP.out.1 HG.out.1
      have HFIN : Hid (∀ W, Two bm gr w3 W → Below w.heap.size w W) := fun W hW => ⟨hW.os.trans HB5.out.os, hW.tape.trans HB5.out.tape, hW.output.trans HB5.out.output, Nat.le_trans HB5.out.size hW.size, fun k hk => (hW.block k (Nat.lt_of_lt_of_le hk HB5.out.size) (by have := HP.out.2; omega) (by have := HG.out.2; omega)).trans (HB5.out.block k hk)⟩
      by_cases he : ky1.toList = a2.toList
      · have hbe : (ky1.toList == a2.toList) = true := by simp [he]
        clear he
        go_wp2_with fail
        refine (awake10_any w9).mono ?_
        rintro e w10 ⟨rfl, hb10⟩
        have HT10 : Hid (Two bm gr w3 w10) := HT9.out.trans (Two.of_below hb10)
        go_wp2
        go_ret
        exact ⟨rfl, HFIN.out _ HT10.out⟩
      · have hbe : (ky1.toList == a2.toList) = false := by simp [he]
        have hfe : putF F ky1 p1 vl1 gn1 a2 = F a2 := by
          unfold putF
          split
          · exact upd_other _ _ _ _ (fun e => he ((bytes_same _ _).2 e.symm))
          · rfl
        have h1 := snum_any g bm n7 D7 (putF F ky1 p1 vl1 gn1) a2 w9 HSP9.out ha2
        rw [hfe] at HU9 h1
        rw [hfe]
        obtain ⟨x0, x1, x2, x3⟩ := HV9.out.cells
        obtain ⟨y0, y1, y2, y3⟩ := HU9.out.cells
        have heq : ∀ W, (binOp .eql 36 (readV (F a2) a3).value (readV (F a2) a3).value).run Try.prog W = .ok (.bool true) W := fun W => by rw [eql_36, eqV_self]
        clear he hfe
        generalize readV (F a2) a3 = rv at *
        generalize readB (F a2) a3 = rb at *
        generalize lastL (F a2) = lv at *
        simp only [Ver.value] at heq
        go_wp2_with fail
        refine h1.mono ?_
        clear h1
        rintro e w10 ⟨rfl, hb10⟩
        have HT10 : Hid (Two bm gr w3 w10) := HT9.out.trans (Two.of_below hb10)
        clear hb10
        go_wp2_with fail
        refine (awake10_any w10).mono ?_
        rintro e w11 ⟨rfl, hb11⟩
        have HT11 : Hid (Two bm gr w3 w11) := HT10.out.trans (Two.of_below hb11)
        go_wp2
        go_ret
        exact ⟨rfl, HFIN.out _ HT11.out⟩

/-! From the call to the statement. -/
set_option maxRecDepth 100000 in
theorem lifted (os : Os) (started : os.Started) (H : Type) (enc : TypeId × Value → H) :
    ReturnsInHanded {} Try.checked os 8 .any (Rows.spaceApartSpec.pre6 enc Try.prog Try.f8 Rows.spaceApartRow.domain false) (Rows.spaceApartSpec.post enc Try.prog Try.f8 false true false false) := by
  refine returnsInHanded_of_change (C := Try.checked) own started (by kernel_rfl) Try.func8
    (ChangeSpec.witness6 (enc := enc) (C := Try.checked) false ⟨#[], #[.slice none 0 0, .agg #[.int .i64 0, .string ByteArray.empty, .int .i64 0, .string ByteArray.empty, .bool false], .string ByteArray.empty, .int .i64 0], []⟩ 8 (by kernel_rfl) (by kernel_rfl) (by kernel_rfl) (by kernel_rfl)) ?_
  intro W base args ds gs before hval0 hW hcnd _
  have hval : ∀ (j : Nat) t v, Try.f8.params[j]? = some t → args[j]? = some v → Value.okWide Try.prog W .any base t v := hval0
  have hW' := hW
  obtain ⟨p, q, hA0, hV, rfl, hfz, hnd⟩ := hW
  have hA : DataW.TrodAll enc Try.prog W 0 (fun _ => true) true Try.f8.params.toList args.toList ds p := hA0
  rw [Try.params8] at hA hval
  obtain ⟨v0, vs0, d0, ds0, p0, q0, hargs, rfl, rfl, h0, r0⟩ := trodAll_cons hA
  obtain ⟨v1, vs1, d1, ds1, p1, q1, rfl, rfl, rfl, h1, r1⟩ := trodAll_cons r0
  obtain ⟨v2, vs2, d2, ds2, p2, q2, rfl, rfl, rfl, h2, r2⟩ := trodAll_cons r1
  obtain ⟨v3, vs3, d3, ds3, p3, q3, rfl, rfl, rfl, h3, r3⟩ := trodAll_cons r2
  obtain ⟨rfl, rfl, rfl⟩ := trodAll_nil r3
  obtain rfl : args = #[v0, v1, v2, v3] := by cases args; simp_all
  obtain ⟨rfl, rfl⟩ := trodVars_none hV
  obtain ⟨a0, len0, cap0, rfl⟩ := okWide_slice Try.underlying53 (hval 0 53 v0 rfl rfl)
  have k0 := h0
  have lt0 : ∀ x ∈ p0, x.block < W.heap.size := by obtain ⟨m, hm⟩ := k0; exact DataW.trod_lt m _ _ _ hm
  obtain ⟨O0, w0⟩ := open_sops h0
  have k1 := h1
  have lt1 : ∀ x ∈ p1, x.block < W.heap.size := by obtain ⟨m, hm⟩ := k1; exact DataW.trod_lt m _ _ _ hm
  obtain ⟨kd1, ky1, pp1, vl1, gn1, rfl, hkd1, hky1, hpp1, hvl1⟩ := open_sop (hval 1 61 v1 rfl rfl) h1
  obtain ⟨a2, rfl, rfl, rfl, w2⟩ := open_string Try.underlying9 (hval 2 9 v2 rfl rfl) h2
  obtain ⟨a3, rfl, rfl, rfl, w3⟩ := open_int Try.underlying3 (hval 3 3 v3 rfl rfl) h3
  clear hA0 hval0
  refine (walk a0 len0 cap0 O0 kd1 ky1 pp1 vl1 gn1 a2 a3 W w0 hkd1 hky1 hpp1 hvl1 w2 w3).mono fun e W' ⟨he, bel⟩ => ?_
  subst he
  exact ⟨_, rfl, _, _, _, [], _, [], hW', trodAll_mk1 (shut_bool Try.underlying4 _), (trodAll_cons_mk (Below.trod laidOut (by kernel_rfl) (of_decide_eq_true (by kernel_rfl)) k0 bel lt0) (trodAll_cons_mk (Below.trod laidOut (by kernel_rfl) (of_decide_eq_true (by kernel_rfl)) k1 bel lt1) (trodAll_cons_mk (shut_string Try.underlying9 w2) (trodAll_cons_mk (shut_int Try.underlying3 w3) trodAll_mk0)))), rfl, bel.frame _, fun h => by cases h⟩

theorem over : Rows.spaceApartRow.holds Try.pinned (OpenSpec.ofChange Rows.spaceApartSpec) :=
  OpenClaim.holds_of_wide 8 Try.f8 rfl rfl rfl rfl rfl rfl rfl ⟨rfl, rfl, rfl, rfl, rfl⟩ rfl rfl rfl rfl rfl (by kernel_rfl) Try.func8 (by kernel_rfl)
    (of_decide_eq_true (by kernel_rfl)) (by unfold Func.isWrapper; first | (rw [if_pos (by decide +kernel)]; kernel_rfl) | (rw [if_neg (by decide +kernel)]; exact ⟨rfl, rfl⟩))
    (fun os started H enc _ => lifted os started H enc)
end Go.Proofs.Ytmahigfamgbhfaa.spaceApart
namespace Go.Proofs.Ytmahigfamgbhfaa
theorem spaceApart_holds : Rows.SpaceApartSaid := spaceApart.over
#print axioms spaceApart_holds
end Go.Proofs.Ytmahigfamgbhfaa
