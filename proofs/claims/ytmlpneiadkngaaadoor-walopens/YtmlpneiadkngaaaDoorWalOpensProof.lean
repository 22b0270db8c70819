/-
  Whatever stands in both areas, a log is opened, and opened again it is the same: the law WalOpens returns true at any bytes of both areas, and does not change them. Condition: package errors' own variable errorType lies as its text lays it.
-/
import Derived.Test.YtmlpneiadkngaaaDoorRows
import Derived.Test.YtmlpneiadkngaaaDoorCards
import Derived.Test.YtmlpneiadkngaaaDoorTie
import Derived.Test.YtmlpneiadkngaaaDoorDoor
import Derived.Test.YtmlpneiadkngaaaDoorWaO
import Derived.WalkKit
import Derived.ProofKit
import Derived.OpenShut
import Derived.ShutString
import Derived.ChangeOld
import Derived.Below
import Derived.SevenTiedAt
namespace Go.Proofs.YtmlpneiadkngaaaDoor.walOpens
open Go.ChangeShapes Go.WideShapes Go.ChangeAt Go.RowKit
open Go.ChangeMaps (open_string shut_string)
set_option linter.unusedSimpArgs false
set_option linter.unusedVariables false

theorem laidOut : laidOutB Tryd.prog = true := by kernel_rfl

theorem appends0 (bs : List Nat) (h : bs.length ≤ 200) : (DS.new 1000).append 0 bs = (0, ⟨1000, bs, 0, [], 0, false, none⟩) := by
  unfold DS.append
  rw [if_neg (by simp), if_neg (by simp [DS.new, DS.free]; omega)]
  simp [DS.new, DS.write, DS.sets, DS.get, DS.sure]
theorem appends1 (b0 bs : List Nat) (h0 : b0.length ≤ 200) (h : bs.length ≤ 200) : (⟨1000, b0, 0, [], 0, false, none⟩ : DS).append 1 bs = (0, ⟨1000, b0, 0, bs, 0, false, none⟩) := by
  unfold DS.append
  rw [if_neg (by simp), if_neg (by simp [DS.free]; omega)]
  simp [DS.write, DS.sets, DS.get, DS.sure]

/-! The law returns true, and writes nothing that was there. -/
set_option maxRecDepth 100000 in
set_option maxHeartbeats 20000000 in
theorem walk (a0 : Option Addr) (len0 cap0 : Nat) (z0 : List Int) (a1 : Option Addr) (len1 cap1 : Nat) (z1 : List Int) (w : World) (hg : G w) (w0 : IsRow .u8 w a0 len0 cap0 z0) (w1 : IsRow .u8 w a1 len1 cap1 z1) :
    Calls Tryd.prog 3 #[.slice a0 len0 cap0, .slice a1 len1 cap1] w fun e w' => e = .returned (.bool true) ∧ Below w.heap.size w w' := by
  have HG : Hid (G w) := hg
  have hpos := hg.pos
  obtain ⟨S, hSe⟩ : ∃ S : Nat → Prop, S = fun k => w.heap.size ≤ k := ⟨_, rfl⟩
  have HSE : Hid (∀ k, S k ↔ w.heap.size ≤ k) := fun k => by rw [hSe]
  have hn0 : ¬ S 0 := fun h => by have := (HSE.out 0).1 h; omega
  clear hSe hg
  have f0 := w0.facts.2.2
  have f1 := w1.facts.2.2
  have fc0 := w0.facts
  have fc1 := w1.facts
  unfold maxLen at fc0 fc1
  by_cases hl0 : len0 ≤ 200
  · by_cases hl1 : len1 ≤ 200
    · have rb0 := w0.row len0 (Nat.le_refl _)
      generalize firsts z0 len0 = bs0 at rb0
      have rb1 := w1.row len1 (Nat.le_refl _)
      generalize firsts z1 len1 = bs1 at rb1
      have l0 : bs0.length ≤ 200 := by have := rb0.1; omega
      have l1 : bs1.length ≤ 200 := by have := rb1.1; omega
      have sub1 := rb1.sub
      have HF : Hid (_ ∧ _) := ⟨fc0, fc1⟩
      clear w0 w1
      go_enter Tryd.func3, Tryd.ntmps3
      go_wp2_with fail
      refine (dnew_any 1000 w S (fun k hk => (HSE.out k).2 hk)).mono ?_
      rintro e w1 ⟨rfl, hD1, hb1⟩
      rw [show min (1000 : Int).toNat 1048576 = 1000 from rfl] at hD1
      have HG1 : Hid (G w1) := HG.out.later hb1
      have HB1 : Hid (Below w.heap.size w w1) := hb1
      have hz1 := hb1.size
      have hap := dappend_any w.heap.size S (DS.new 1000) 0 a0 len0 cap0 bs0 w1 hD1 (fun k hk => (HSE.out k).2 (Nat.le_trans hz1 hk)) (rb0.later hb1) f0
      rw [appends0 bs0 l0] at hap
      dsimp only at hap
      have rb1w := rb1.later hb1
      clear hD1 hb1 rb0
      go_wp2_with fail
      refine hap.mono ?_
      clear hap
      rintro e w2 ⟨rfl, hD2, hf2⟩
      have hz2 := hf2.size
      have HB2 : Hid (Below w.heap.size w w2) := HB1.out.trans (hf2.below hz1 (fun k hk => (HSE.out k).1 hk))
      have HG2 : Hid (G w2) := HG1.out.frm hf2 hn0
      have rb2 := rb1w.fr hf2 (fun x hx h0 hs => by have h1 := (HSE.out _).1 hs; have h2 := sub1 x hx h0; omega)
      have hap := dappend_any w.heap.size S ⟨1000, bs0, 0, [], 0, false, none⟩ 1 a1 len1 cap1 bs1 w2 hD2 (fun k hk => (HSE.out k).2 (Nat.le_trans (Nat.le_trans hz1 hz2) hk)) rb2 f1
      rw [appends1 bs0 bs1 l0 l1] at hap
      dsimp only at hap
      clear hD2 hf2 rb1w rb2 sub1 HB1 HG1
      go_wp2_with fail
      refine hap.mono ?_
      clear hap
      rintro e w3 ⟨rfl, hD3, hf3⟩
      have HB3 : Hid (Below w.heap.size w w3) := HB2.out.trans (hf3.below (Nat.le_trans hz1 hz2) (fun k hk => (HSE.out k).1 hk))
      have HG3 : Hid (G w3) := HG2.out.frm hf3 hn0
      have hop := Open_far w.heap.size S ⟨1000, bs0, 0, bs1, 0, false, none⟩ w3 HG3.out hD3 (fun k hk => (HSE.out k).2 (Nat.le_trans HB3.out.size hk)) hn0 rfl (by dsimp only; omega) (by dsimp only; omega)
      have hgw3 := hD3.lt
      clear hD3 hf3 HB2 HG2
      go_wp2_with fail
      refine hop.mono ?_
      clear hop
      rintro e w4 ⟨wc, en0, wh0, gn0, a0_, n0, cp0, en1, wh1, gn1, a1_, n1, cp1, hbc, hs0, hs1, hf4, hif⟩
      obtain ⟨D, rs, ra, rca, hopd, hOne, hsl, hR1⟩ := opened_one wc w3.heap.size bs0 bs1 en0 gn0 n0 en1 gn1 n1 cp0 cp1 wh0 wh1 a0_ a1_ l0 l1 hs0 hs1
      dsimp only at hif
      rw [hopd, if_pos rfl, hsl] at hif
      obtain ⟨gl, rfl, hL4, hgl, hD4⟩ := hif
      clear hs0 hs1 hopd hsl
      generalize Wa.newest wh0 wh1 gn0 gn1 = A at *
      generalize Wa.genOf wh0 gn0 wh1 gn1 = gen at *
      have HFc : Hid (Frm (Far S w3 wc) wc w4) := hf4
      have HR : Hid (Recb wc w3.heap.size ra rs.length rs) := hR1
      have HBc : Hid (Below w3.heap.size w3 wc) := hbc
      have HB4 : Hid (Below w.heap.size w w4) := (HB3.out.trans (hbc.mono HB3.out.size)).trans (hf4.below (Nat.le_trans HB3.out.size hbc.size) (fun k hk => (HSE.out k).1 hk.1))
      have hnF0 : ¬ Far S w3 wc 0 := fun h => hn0 h.1
      have HG4 : Hid (G w4) := (HG3.out.later hbc).frm hf4 hnF0
      have hgl4 : gl < w4.heap.size := heap_lt hL4
      have hwc4 : wc.heap.size ≤ w4.heap.size := hf4.size
      have h3c : w3.heap.size ≤ wc.heap.size := hbc.size
      have h03 : w.heap.size ≤ w3.heap.size := HB3.out.size
      have HL4 : Hid (Lg w4 gl w.heap.size A gen false) := hL4
      have HD4 : Hid (Dk w4 (fun k => Far S w3 wc k ∧ k ≠ gl) w.heap.size D) := hD4
      clear hf4 hR1 hbc hL4 hD4 HG3
      go_wp2_with fail
      refine (gen_any gl w.heap.size A gen w4 HL4.out).mono ?_
      rintro e w4' ⟨rfl, hw⟩
      subst w4'
      obtain ⟨hlost, hlb0, hlb1⟩ : D.lost = false ∧ D.b0.length ≤ 100000 ∧ D.b1.length ≤ 100000 := by
        obtain ⟨B, k, _, _, _, hB, _, h | h⟩ := hOne
        · obtain ⟨_, rfl⟩ := h; exact ⟨rfl, by dsimp only; omega, by simp⟩
        · obtain ⟨_, rfl⟩ := h; exact ⟨rfl, by simp, by dsimp only; omega⟩
      have hop := Open_far w.heap.size (fun k => Far S w3 wc k ∧ k ≠ gl) D w4 HG4.out HD4.out (fun k hk => ⟨⟨(HSE.out k).2 (by omega), fun h => by omega⟩, by omega⟩) (fun h => hnF0 h.1) hlost hlb0 hlb1
      go_wp2_with fail
      refine hop.mono ?_
      clear hop
      rintro e w5 ⟨wd, en0, wh0, gn0, a0_, n0, cp0, en1, wh1, gn1, a1_, n1, cp1, hbd, hs0, hs1, hf5, hif⟩
      obtain ⟨hopd, hnw, hgo, rb, rcb, hsl, hR2⟩ := opened_again wd w4.heap.size D A gen rs hOne en0 gn0 n0 en1 gn1 n1 cp0 cp1 wh0 wh1 a0_ a1_ hs0 hs1
      rw [hopd, if_pos rfl, hsl, hnw, hgo] at hif
      obtain ⟨gl2, rfl, hL5, hgl2, hD5⟩ := hif
      have hfar : Frm (Far S w3 wc) w4 w5 := (Frm.of_later hbd _).trans (hf5.mono fun k _ hk => hk.1.1)
      have HB5 : Hid (Below w.heap.size w w5) := HB4.out.trans (hfar.below HB4.out.size (fun k hk => (HSE.out k).1 hk.1))
      have HR1 : Hid (Recb w5 w3.heap.size ra rs.length rs) := HR.out.frm (HFc.out.trans hfar) (fun k h1 h2 h3 => h3.2 ⟨h1, h2⟩)
      have HR2 : Hid (Recb w5 w4.heap.size rb rs.length rs) := hR2.frm hf5 (fun k h1 h2 h3 => h3.2 ⟨h1, h2⟩)
      have HL5 : Hid (Lg w5 gl2 w.heap.size A gen false) := hL5
      obtain ⟨U, hU⟩ : ∃ U : Nat → Prop, U = fun k => Far (fun k => Far S w3 wc k ∧ k ≠ gl) w4 wd k ∧ k ≠ gl2 := ⟨_, rfl⟩
      rw [← hU] at hD5
      clear hs0 hs1 hf5 hbd hL5 hR2 hfar HFc HR HBc HG4 HL4 HD4 hopd hsl hU hgo hnw hlost hlb0 hlb1
      obtain ⟨B, k, -, -, hne, hB, hrl, h | h⟩ := hOne
      · obtain ⟨rfl, rfl⟩ := h
        have HD5 : Hid (Dk w5 U w.heap.size ⟨1000, B, B.length, [], ([] : List Nat).length, false, none⟩) := hD5
        clear hD5
        have hB1 : ((B.length : Int) == 0) = false := by simpa using hne
        have hL5 := HL5.out
        have hrd0 := dread_any w.heap.size U ⟨1000, B, B.length, ([] : List Nat), ([] : List Nat).length, false, none⟩ 0 w5 HD5.out
        rw [show (⟨1000, B, B.length, ([] : List Nat), ([] : List Nat).length, false, none⟩ : DS).read 0 = (B, 0) from rfl] at hrd0
        dsimp only at hrd0
        go_wp2_with fail
        refine hrd0.mono ?_
        clear hrd0
        rintro e w6 ⟨x6, rfl, ho6, hb6⟩
        obtain ⟨xa, xn, xc, rfl, hxr, -⟩ := ho6.slice
        have hxn : xn = B.length := hxr.1.symm
        subst hxn
        have HD6 : Hid (Dk w6 U w.heap.size ⟨1000, B, B.length, ([] : List Nat), ([] : List Nat).length, false, none⟩) := HD5.out.later hb6
        have HB56 : Hid (Below w5.heap.size w5 w6) := hb6
        clear ho6 hxr hb6
        have hrd1 := dread_any w.heap.size U ⟨1000, B, B.length, ([] : List Nat), ([] : List Nat).length, false, none⟩ 1 w6 HD6.out
        rw [show (⟨1000, B, B.length, ([] : List Nat), ([] : List Nat).length, false, none⟩ : DS).read 1 = (([] : List Nat), 0) from rfl] at hrd1
        dsimp only at hrd1
        go_wp2_with fail
        refine hrd1.mono ?_
        clear hrd1
        rintro e w7 ⟨y7, rfl, ho7, hb7⟩
        obtain ⟨ya, yn, yc, rfl, hyr, -⟩ := ho7.slice
        have hyn : yn = ([] : List Nat).length := hyr.1.symm
        subst hyn
        have HD7 : Hid (Dk w7 U w.heap.size ⟨1000, B, B.length, ([] : List Nat), ([] : List Nat).length, false, none⟩) := HD6.out.later hb7
        have HB57 : Hid (Below w5.heap.size w5 w7) := HB56.out.trans (hb7.mono HB56.out.size)
        clear ho7 hyr hb7
        have hsm := same_any ra rb rs.length rca rcb rs w7 (by omega) (HR1.out.later HB57.out).recv (HR2.out.later HB57.out).recv
        go_wp2_with fail
        refine hsm.mono ?_
        clear hsm
        rintro e w8 ⟨rfl, hb8⟩
        have HB58 : Hid (Below w5.heap.size w5 w8) := HB57.out.trans (hb8.mono HB57.out.size)
        have HD8 : Hid (Dk w8 U w.heap.size ⟨1000, B, B.length, ([] : List Nat), ([] : List Nat).length, false, none⟩) := HD7.out.later hb8
        clear hb8
        have hgn := gen_any gl2 w.heap.size 0 gen w8 (hL5.later HB58.out)
        go_wp2_with fail
        refine hgn.mono ?_
        clear hgn
        rintro e w9 ⟨rfl, hw⟩
        subst w9
        have hs0 := dsure_any w.heap.size U ⟨1000, B, B.length, ([] : List Nat), ([] : List Nat).length, false, none⟩ 0 w8 HD8.out
        rw [show (⟨1000, B, B.length, ([] : List Nat), ([] : List Nat).length, false, none⟩ : DS).sureOf 0 = B.length from rfl] at hs0
        go_wp2_with fail
        refine hs0.mono ?_
        clear hs0
        rintro e w9 ⟨rfl, hw⟩
        subst w9
        have hs1 := dsure_any w.heap.size U ⟨1000, B, B.length, ([] : List Nat), ([] : List Nat).length, false, none⟩ 1 w8 HD8.out
        rw [show (⟨1000, B, B.length, ([] : List Nat), ([] : List Nat).length, false, none⟩ : DS).sureOf 1 = ([] : List Nat).length from rfl] at hs1
        go_wp2_with fail
        refine hs1.mono ?_
        clear hs1
        rintro e w9 ⟨rfl, hw⟩
        subst w9
        have HB8 : Hid (Below w.heap.size w w8) := HB5.out.trans (HB58.out.mono HB5.out.size)
        go_wp2_with fail
        refine (awake6_any w8 (HG.out.later HB8.out)).mono ?_
        rintro e w9 ⟨rfl, hb9⟩
        go_wp2
        go_ret
        exact ⟨rfl, HB8.out.trans (hb9.mono HB8.out.size)⟩
      · obtain ⟨rfl, rfl⟩ := h
        have HD5 : Hid (Dk w5 U w.heap.size ⟨1000, [], ([] : List Nat).length, B, B.length, false, none⟩) := hD5
        clear hD5
        have hB1 : ((B.length : Int) == 0) = false := by simpa using hne
        have hL5 := HL5.out
        have hrd0 := dread_any w.heap.size U ⟨1000, ([] : List Nat), ([] : List Nat).length, B, B.length, false, none⟩ 0 w5 HD5.out
        rw [show (⟨1000, ([] : List Nat), ([] : List Nat).length, B, B.length, false, none⟩ : DS).read 0 = (([] : List Nat), 0) from rfl] at hrd0
        dsimp only at hrd0
        go_wp2_with fail
        refine hrd0.mono ?_
        clear hrd0
        rintro e w6 ⟨x6, rfl, ho6, hb6⟩
        obtain ⟨xa, xn, xc, rfl, hxr, -⟩ := ho6.slice
        have hxn : xn = ([] : List Nat).length := hxr.1.symm
        subst hxn
        have HD6 : Hid (Dk w6 U w.heap.size ⟨1000, ([] : List Nat), ([] : List Nat).length, B, B.length, false, none⟩) := HD5.out.later hb6
        have HB56 : Hid (Below w5.heap.size w5 w6) := hb6
        clear ho6 hxr hb6
        have hrd1 := dread_any w.heap.size U ⟨1000, ([] : List Nat), ([] : List Nat).length, B, B.length, false, none⟩ 1 w6 HD6.out
        rw [show (⟨1000, ([] : List Nat), ([] : List Nat).length, B, B.length, false, none⟩ : DS).read 1 = (B, 0) from rfl] at hrd1
        dsimp only at hrd1
        go_wp2_with fail
        refine hrd1.mono ?_
        clear hrd1
        rintro e w7 ⟨y7, rfl, ho7, hb7⟩
        obtain ⟨ya, yn, yc, rfl, hyr, -⟩ := ho7.slice
        have hyn : yn = B.length := hyr.1.symm
        subst hyn
        have HD7 : Hid (Dk w7 U w.heap.size ⟨1000, ([] : List Nat), ([] : List Nat).length, B, B.length, false, none⟩) := HD6.out.later hb7
        have HB57 : Hid (Below w5.heap.size w5 w7) := HB56.out.trans (hb7.mono HB56.out.size)
        clear ho7 hyr hb7
        have hsm := same_any ra rb rs.length rca rcb rs w7 (by omega) (HR1.out.later HB57.out).recv (HR2.out.later HB57.out).recv
        go_wp2_with fail
        refine hsm.mono ?_
        clear hsm
        rintro e w8 ⟨rfl, hb8⟩
        have HB58 : Hid (Below w5.heap.size w5 w8) := HB57.out.trans (hb8.mono HB57.out.size)
        have HD8 : Hid (Dk w8 U w.heap.size ⟨1000, ([] : List Nat), ([] : List Nat).length, B, B.length, false, none⟩) := HD7.out.later hb8
        clear hb8
        have hgn := gen_any gl2 w.heap.size 1 gen w8 (hL5.later HB58.out)
        go_wp2_with fail
        refine hgn.mono ?_
        clear hgn
        rintro e w9 ⟨rfl, hw⟩
        subst w9
        have hs0 := dsure_any w.heap.size U ⟨1000, ([] : List Nat), ([] : List Nat).length, B, B.length, false, none⟩ 0 w8 HD8.out
        rw [show (⟨1000, ([] : List Nat), ([] : List Nat).length, B, B.length, false, none⟩ : DS).sureOf 0 = ([] : List Nat).length from rfl] at hs0
        go_wp2_with fail
        refine hs0.mono ?_
        clear hs0
        rintro e w9 ⟨rfl, hw⟩
        subst w9
        have hs1 := dsure_any w.heap.size U ⟨1000, ([] : List Nat), ([] : List Nat).length, B, B.length, false, none⟩ 1 w8 HD8.out
        rw [show (⟨1000, ([] : List Nat), ([] : List Nat).length, B, B.length, false, none⟩ : DS).sureOf 1 = B.length from rfl] at hs1
        go_wp2_with fail
        refine hs1.mono ?_
        clear hs1
        rintro e w9 ⟨rfl, hw⟩
        subst w9
        have HB8 : Hid (Below w.heap.size w w8) := HB5.out.trans (HB58.out.mono HB5.out.size)
        go_wp2_with fail
        refine (awake6_any w8 (HG.out.later HB8.out)).mono ?_
        rintro e w9 ⟨rfl, hb9⟩
        go_wp2
        go_ret
        exact ⟨rfl, HB8.out.trans (hb9.mono HB8.out.size)⟩
    · have rb0 := w0.row len0 (Nat.le_refl _)
      generalize firsts z0 len0 = bs0 at rb0
      have rb1 := w1.row 200 (by omega)
      obtain ⟨ab1, ao1, rfl⟩ := w1.addr (by omega)
      generalize firsts z1 200 = bs1 at rb1
      have l0 : bs0.length ≤ 200 := by have := rb0.1; omega
      have l1 : bs1.length ≤ 200 := by have := rb1.1; omega
      have sub1 := rb1.sub
      have HF : Hid (_ ∧ _) := ⟨fc0, fc1⟩
      clear w0 w1
      go_enter Tryd.func3, Tryd.ntmps3
      go_wp2_with fail
      refine (dnew_any 1000 w S (fun k hk => (HSE.out k).2 hk)).mono ?_
      rintro e w1 ⟨rfl, hD1, hb1⟩
      rw [show min (1000 : Int).toNat 1048576 = 1000 from rfl] at hD1
      have HG1 : Hid (G w1) := HG.out.later hb1
      have HB1 : Hid (Below w.heap.size w w1) := hb1
      have hz1 := hb1.size
      have hap := dappend_any w.heap.size S (DS.new 1000) 0 a0 len0 cap0 bs0 w1 hD1 (fun k hk => (HSE.out k).2 (Nat.le_trans hz1 hk)) (rb0.later hb1) f0
      rw [appends0 bs0 l0] at hap
      dsimp only at hap
      have rb1w := rb1.later hb1
      clear hD1 hb1 rb0
      go_wp2_with fail
      refine hap.mono ?_
      clear hap
      rintro e w2 ⟨rfl, hD2, hf2⟩
      have hz2 := hf2.size
      have HB2 : Hid (Below w.heap.size w w2) := HB1.out.trans (hf2.below hz1 (fun k hk => (HSE.out k).1 hk))
      have HG2 : Hid (G w2) := HG1.out.frm hf2 hn0
      have rb2 := rb1w.fr hf2 (fun x hx h0 hs => by have h1 := (HSE.out _).1 hs; have h2 := sub1 x hx h0; omega)
      have hap := dappend_any w.heap.size S ⟨1000, bs0, 0, [], 0, false, none⟩ 1 (some ⟨ab1, ao1, none⟩) 200 cap1 bs1 w2 hD2 (fun k hk => (HSE.out k).2 (Nat.le_trans (Nat.le_trans hz1 hz2) hk)) rb2 f1
      rw [appends1 bs0 bs1 l0 l1] at hap
      dsimp only at hap
      clear hD2 hf2 rb1w rb2 sub1 HB1 HG1
      go_wp2_with fail
      refine hap.mono ?_
      clear hap
      rintro e w3 ⟨rfl, hD3, hf3⟩
      have HB3 : Hid (Below w.heap.size w w3) := HB2.out.trans (hf3.below (Nat.le_trans hz1 hz2) (fun k hk => (HSE.out k).1 hk))
      have HG3 : Hid (G w3) := HG2.out.frm hf3 hn0
      have hop := Open_far w.heap.size S ⟨1000, bs0, 0, bs1, 0, false, none⟩ w3 HG3.out hD3 (fun k hk => (HSE.out k).2 (Nat.le_trans HB3.out.size hk)) hn0 rfl (by dsimp only; omega) (by dsimp only; omega)
      have hgw3 := hD3.lt
      clear hD3 hf3 HB2 HG2
      go_wp2_with fail
      refine hop.mono ?_
      clear hop
      rintro e w4 ⟨wc, en0, wh0, gn0, a0_, n0, cp0, en1, wh1, gn1, a1_, n1, cp1, hbc, hs0, hs1, hf4, hif⟩
      obtain ⟨D, rs, ra, rca, hopd, hOne, hsl, hR1⟩ := opened_one wc w3.heap.size bs0 bs1 en0 gn0 n0 en1 gn1 n1 cp0 cp1 wh0 wh1 a0_ a1_ l0 l1 hs0 hs1
      dsimp only at hif
      rw [hopd, if_pos rfl, hsl] at hif
      obtain ⟨gl, rfl, hL4, hgl, hD4⟩ := hif
      clear hs0 hs1 hopd hsl
      generalize Wa.newest wh0 wh1 gn0 gn1 = A at *
      generalize Wa.genOf wh0 gn0 wh1 gn1 = gen at *
      have HFc : Hid (Frm (Far S w3 wc) wc w4) := hf4
      have HR : Hid (Recb wc w3.heap.size ra rs.length rs) := hR1
      have HBc : Hid (Below w3.heap.size w3 wc) := hbc
      have HB4 : Hid (Below w.heap.size w w4) := (HB3.out.trans (hbc.mono HB3.out.size)).trans (hf4.below (Nat.le_trans HB3.out.size hbc.size) (fun k hk => (HSE.out k).1 hk.1))
      have hnF0 : ¬ Far S w3 wc 0 := fun h => hn0 h.1
      have HG4 : Hid (G w4) := (HG3.out.later hbc).frm hf4 hnF0
      have hgl4 : gl < w4.heap.size := heap_lt hL4
      have hwc4 : wc.heap.size ≤ w4.heap.size := hf4.size
      have h3c : w3.heap.size ≤ wc.heap.size := hbc.size
      have h03 : w.heap.size ≤ w3.heap.size := HB3.out.size
      have HL4 : Hid (Lg w4 gl w.heap.size A gen false) := hL4
      have HD4 : Hid (Dk w4 (fun k => Far S w3 wc k ∧ k ≠ gl) w.heap.size D) := hD4
      clear hf4 hR1 hbc hL4 hD4 HG3
      go_wp2_with fail
      refine (gen_any gl w.heap.size A gen w4 HL4.out).mono ?_
      rintro e w4' ⟨rfl, hw⟩
      subst w4'
      obtain ⟨hlost, hlb0, hlb1⟩ : D.lost = false ∧ D.b0.length ≤ 100000 ∧ D.b1.length ≤ 100000 := by
        obtain ⟨B, k, _, _, _, hB, _, h | h⟩ := hOne
        · obtain ⟨_, rfl⟩ := h; exact ⟨rfl, by dsimp only; omega, by simp⟩
        · obtain ⟨_, rfl⟩ := h; exact ⟨rfl, by simp, by dsimp only; omega⟩
      have hop := Open_far w.heap.size (fun k => Far S w3 wc k ∧ k ≠ gl) D w4 HG4.out HD4.out (fun k hk => ⟨⟨(HSE.out k).2 (by omega), fun h => by omega⟩, by omega⟩) (fun h => hnF0 h.1) hlost hlb0 hlb1
      go_wp2_with fail
      refine hop.mono ?_
      clear hop
      rintro e w5 ⟨wd, en0, wh0, gn0, a0_, n0, cp0, en1, wh1, gn1, a1_, n1, cp1, hbd, hs0, hs1, hf5, hif⟩
      obtain ⟨hopd, hnw, hgo, rb, rcb, hsl, hR2⟩ := opened_again wd w4.heap.size D A gen rs hOne en0 gn0 n0 en1 gn1 n1 cp0 cp1 wh0 wh1 a0_ a1_ hs0 hs1
      rw [hopd, if_pos rfl, hsl, hnw, hgo] at hif
      obtain ⟨gl2, rfl, hL5, hgl2, hD5⟩ := hif
      have hfar : Frm (Far S w3 wc) w4 w5 := (Frm.of_later hbd _).trans (hf5.mono fun k _ hk => hk.1.1)
      have HB5 : Hid (Below w.heap.size w w5) := HB4.out.trans (hfar.below HB4.out.size (fun k hk => (HSE.out k).1 hk.1))
      have HR1 : Hid (Recb w5 w3.heap.size ra rs.length rs) := HR.out.frm (HFc.out.trans hfar) (fun k h1 h2 h3 => h3.2 ⟨h1, h2⟩)
      have HR2 : Hid (Recb w5 w4.heap.size rb rs.length rs) := hR2.frm hf5 (fun k h1 h2 h3 => h3.2 ⟨h1, h2⟩)
      have HL5 : Hid (Lg w5 gl2 w.heap.size A gen false) := hL5
      obtain ⟨U, hU⟩ : ∃ U : Nat → Prop, U = fun k => Far (fun k => Far S w3 wc k ∧ k ≠ gl) w4 wd k ∧ k ≠ gl2 := ⟨_, rfl⟩
      rw [← hU] at hD5
      clear hs0 hs1 hf5 hbd hL5 hR2 hfar HFc HR HBc HG4 HL4 HD4 hopd hsl hU hgo hnw hlost hlb0 hlb1
      obtain ⟨B, k, -, -, hne, hB, hrl, h | h⟩ := hOne
      · obtain ⟨rfl, rfl⟩ := h
        have HD5 : Hid (Dk w5 U w.heap.size ⟨1000, B, B.length, [], ([] : List Nat).length, false, none⟩) := hD5
        clear hD5
        have hB1 : ((B.length : Int) == 0) = false := by simpa using hne
        have hL5 := HL5.out
        have hrd0 := dread_any w.heap.size U ⟨1000, B, B.length, ([] : List Nat), ([] : List Nat).length, false, none⟩ 0 w5 HD5.out
        rw [show (⟨1000, B, B.length, ([] : List Nat), ([] : List Nat).length, false, none⟩ : DS).read 0 = (B, 0) from rfl] at hrd0
        dsimp only at hrd0
        go_wp2_with fail
        refine hrd0.mono ?_
        clear hrd0
        rintro e w6 ⟨x6, rfl, ho6, hb6⟩
        obtain ⟨xa, xn, xc, rfl, hxr, -⟩ := ho6.slice
        have hxn : xn = B.length := hxr.1.symm
        subst hxn
        have HD6 : Hid (Dk w6 U w.heap.size ⟨1000, B, B.length, ([] : List Nat), ([] : List Nat).length, false, none⟩) := HD5.out.later hb6
        have HB56 : Hid (Below w5.heap.size w5 w6) := hb6
        clear ho6 hxr hb6
        have hrd1 := dread_any w.heap.size U ⟨1000, B, B.length, ([] : List Nat), ([] : List Nat).length, false, none⟩ 1 w6 HD6.out
        rw [show (⟨1000, B, B.length, ([] : List Nat), ([] : List Nat).length, false, none⟩ : DS).read 1 = (([] : List Nat), 0) from rfl] at hrd1
        dsimp only at hrd1
        go_wp2_with fail
        refine hrd1.mono ?_
        clear hrd1
        rintro e w7 ⟨y7, rfl, ho7, hb7⟩
        obtain ⟨ya, yn, yc, rfl, hyr, -⟩ := ho7.slice
        have hyn : yn = ([] : List Nat).length := hyr.1.symm
        subst hyn
        have HD7 : Hid (Dk w7 U w.heap.size ⟨1000, B, B.length, ([] : List Nat), ([] : List Nat).length, false, none⟩) := HD6.out.later hb7
        have HB57 : Hid (Below w5.heap.size w5 w7) := HB56.out.trans (hb7.mono HB56.out.size)
        clear ho7 hyr hb7
        have hsm := same_any ra rb rs.length rca rcb rs w7 (by omega) (HR1.out.later HB57.out).recv (HR2.out.later HB57.out).recv
        go_wp2_with fail
        refine hsm.mono ?_
        clear hsm
        rintro e w8 ⟨rfl, hb8⟩
        have HB58 : Hid (Below w5.heap.size w5 w8) := HB57.out.trans (hb8.mono HB57.out.size)
        have HD8 : Hid (Dk w8 U w.heap.size ⟨1000, B, B.length, ([] : List Nat), ([] : List Nat).length, false, none⟩) := HD7.out.later hb8
        clear hb8
        have hgn := gen_any gl2 w.heap.size 0 gen w8 (hL5.later HB58.out)
        go_wp2_with fail
        refine hgn.mono ?_
        clear hgn
        rintro e w9 ⟨rfl, hw⟩
        subst w9
        have hs0 := dsure_any w.heap.size U ⟨1000, B, B.length, ([] : List Nat), ([] : List Nat).length, false, none⟩ 0 w8 HD8.out
        rw [show (⟨1000, B, B.length, ([] : List Nat), ([] : List Nat).length, false, none⟩ : DS).sureOf 0 = B.length from rfl] at hs0
        go_wp2_with fail
        refine hs0.mono ?_
        clear hs0
        rintro e w9 ⟨rfl, hw⟩
        subst w9
        have hs1 := dsure_any w.heap.size U ⟨1000, B, B.length, ([] : List Nat), ([] : List Nat).length, false, none⟩ 1 w8 HD8.out
        rw [show (⟨1000, B, B.length, ([] : List Nat), ([] : List Nat).length, false, none⟩ : DS).sureOf 1 = ([] : List Nat).length from rfl] at hs1
        go_wp2_with fail
        refine hs1.mono ?_
        clear hs1
        rintro e w9 ⟨rfl, hw⟩
        subst w9
        have HB8 : Hid (Below w.heap.size w w8) := HB5.out.trans (HB58.out.mono HB5.out.size)
        go_wp2_with fail
        refine (awake6_any w8 (HG.out.later HB8.out)).mono ?_
        rintro e w9 ⟨rfl, hb9⟩
        go_wp2
        go_ret
        exact ⟨rfl, HB8.out.trans (hb9.mono HB8.out.size)⟩
      · obtain ⟨rfl, rfl⟩ := h
        have HD5 : Hid (Dk w5 U w.heap.size ⟨1000, [], ([] : List Nat).length, B, B.length, false, none⟩) := hD5
        clear hD5
        have hB1 : ((B.length : Int) == 0) = false := by simpa using hne
        have hL5 := HL5.out
        have hrd0 := dread_any w.heap.size U ⟨1000, ([] : List Nat), ([] : List Nat).length, B, B.length, false, none⟩ 0 w5 HD5.out
        rw [show (⟨1000, ([] : List Nat), ([] : List Nat).length, B, B.length, false, none⟩ : DS).read 0 = (([] : List Nat), 0) from rfl] at hrd0
        dsimp only at hrd0
        go_wp2_with fail
        refine hrd0.mono ?_
        clear hrd0
        rintro e w6 ⟨x6, rfl, ho6, hb6⟩
        obtain ⟨xa, xn, xc, rfl, hxr, -⟩ := ho6.slice
        have hxn : xn = ([] : List Nat).length := hxr.1.symm
        subst hxn
        have HD6 : Hid (Dk w6 U w.heap.size ⟨1000, ([] : List Nat), ([] : List Nat).length, B, B.length, false, none⟩) := HD5.out.later hb6
        have HB56 : Hid (Below w5.heap.size w5 w6) := hb6
        clear ho6 hxr hb6
        have hrd1 := dread_any w.heap.size U ⟨1000, ([] : List Nat), ([] : List Nat).length, B, B.length, false, none⟩ 1 w6 HD6.out
        rw [show (⟨1000, ([] : List Nat), ([] : List Nat).length, B, B.length, false, none⟩ : DS).read 1 = (B, 0) from rfl] at hrd1
        dsimp only at hrd1
        go_wp2_with fail
        refine hrd1.mono ?_
        clear hrd1
        rintro e w7 ⟨y7, rfl, ho7, hb7⟩
        obtain ⟨ya, yn, yc, rfl, hyr, -⟩ := ho7.slice
        have hyn : yn = B.length := hyr.1.symm
        subst hyn
        have HD7 : Hid (Dk w7 U w.heap.size ⟨1000, ([] : List Nat), ([] : List Nat).length, B, B.length, false, none⟩) := HD6.out.later hb7
        have HB57 : Hid (Below w5.heap.size w5 w7) := HB56.out.trans (hb7.mono HB56.out.size)
        clear ho7 hyr hb7
        have hsm := same_any ra rb rs.length rca rcb rs w7 (by omega) (HR1.out.later HB57.out).recv (HR2.out.later HB57.out).recv
        go_wp2_with fail
        refine hsm.mono ?_
        clear hsm
        rintro e w8 ⟨rfl, hb8⟩
        have HB58 : Hid (Below w5.heap.size w5 w8) := HB57.out.trans (hb8.mono HB57.out.size)
        have HD8 : Hid (Dk w8 U w.heap.size ⟨1000, ([] : List Nat), ([] : List Nat).length, B, B.length, false, none⟩) := HD7.out.later hb8
        clear hb8
        have hgn := gen_any gl2 w.heap.size 1 gen w8 (hL5.later HB58.out)
        go_wp2_with fail
        refine hgn.mono ?_
        clear hgn
        rintro e w9 ⟨rfl, hw⟩
        subst w9
        have hs0 := dsure_any w.heap.size U ⟨1000, ([] : List Nat), ([] : List Nat).length, B, B.length, false, none⟩ 0 w8 HD8.out
        rw [show (⟨1000, ([] : List Nat), ([] : List Nat).length, B, B.length, false, none⟩ : DS).sureOf 0 = ([] : List Nat).length from rfl] at hs0
        go_wp2_with fail
        refine hs0.mono ?_
        clear hs0
        rintro e w9 ⟨rfl, hw⟩
        subst w9
        have hs1 := dsure_any w.heap.size U ⟨1000, ([] : List Nat), ([] : List Nat).length, B, B.length, false, none⟩ 1 w8 HD8.out
        rw [show (⟨1000, ([] : List Nat), ([] : List Nat).length, B, B.length, false, none⟩ : DS).sureOf 1 = B.length from rfl] at hs1
        go_wp2_with fail
        refine hs1.mono ?_
        clear hs1
        rintro e w9 ⟨rfl, hw⟩
        subst w9
        have HB8 : Hid (Below w.heap.size w w8) := HB5.out.trans (HB58.out.mono HB5.out.size)
        go_wp2_with fail
        refine (awake6_any w8 (HG.out.later HB8.out)).mono ?_
        rintro e w9 ⟨rfl, hb9⟩
        go_wp2
        go_ret
        exact ⟨rfl, HB8.out.trans (hb9.mono HB8.out.size)⟩
  · by_cases hl1 : len1 ≤ 200
    · have rb0 := w0.row 200 (by omega)
      obtain ⟨ab0, ao0, rfl⟩ := w0.addr (by omega)
      generalize firsts z0 200 = bs0 at rb0
      have rb1 := w1.row len1 (Nat.le_refl _)
      generalize firsts z1 len1 = bs1 at rb1
      have l0 : bs0.length ≤ 200 := by have := rb0.1; omega
      have l1 : bs1.length ≤ 200 := by have := rb1.1; omega
      have sub1 := rb1.sub
      have HF : Hid (_ ∧ _) := ⟨fc0, fc1⟩
      clear w0 w1
      go_enter Tryd.func3, Tryd.ntmps3
      go_wp2_with fail
      refine (dnew_any 1000 w S (fun k hk => (HSE.out k).2 hk)).mono ?_
      rintro e w1 ⟨rfl, hD1, hb1⟩
      rw [show min (1000 : Int).toNat 1048576 = 1000 from rfl] at hD1
      have HG1 : Hid (G w1) := HG.out.later hb1
      have HB1 : Hid (Below w.heap.size w w1) := hb1
      have hz1 := hb1.size
      have hap := dappend_any w.heap.size S (DS.new 1000) 0 (some ⟨ab0, ao0, none⟩) 200 cap0 bs0 w1 hD1 (fun k hk => (HSE.out k).2 (Nat.le_trans hz1 hk)) (rb0.later hb1) f0
      rw [appends0 bs0 l0] at hap
      dsimp only at hap
      have rb1w := rb1.later hb1
      clear hD1 hb1 rb0
      go_wp2_with fail
      refine hap.mono ?_
      clear hap
      rintro e w2 ⟨rfl, hD2, hf2⟩
      have hz2 := hf2.size
      have HB2 : Hid (Below w.heap.size w w2) := HB1.out.trans (hf2.below hz1 (fun k hk => (HSE.out k).1 hk))
      have HG2 : Hid (G w2) := HG1.out.frm hf2 hn0
      have rb2 := rb1w.fr hf2 (fun x hx h0 hs => by have h1 := (HSE.out _).1 hs; have h2 := sub1 x hx h0; omega)
      have hap := dappend_any w.heap.size S ⟨1000, bs0, 0, [], 0, false, none⟩ 1 a1 len1 cap1 bs1 w2 hD2 (fun k hk => (HSE.out k).2 (Nat.le_trans (Nat.le_trans hz1 hz2) hk)) rb2 f1
      rw [appends1 bs0 bs1 l0 l1] at hap
      dsimp only at hap
      clear hD2 hf2 rb1w rb2 sub1 HB1 HG1
      go_wp2_with fail
      refine hap.mono ?_
      clear hap
      rintro e w3 ⟨rfl, hD3, hf3⟩
      have HB3 : Hid (Below w.heap.size w w3) := HB2.out.trans (hf3.below (Nat.le_trans hz1 hz2) (fun k hk => (HSE.out k).1 hk))
      have HG3 : Hid (G w3) := HG2.out.frm hf3 hn0
      have hop := Open_far w.heap.size S ⟨1000, bs0, 0, bs1, 0, false, none⟩ w3 HG3.out hD3 (fun k hk => (HSE.out k).2 (Nat.le_trans HB3.out.size hk)) hn0 rfl (by dsimp only; omega) (by dsimp only; omega)
      have hgw3 := hD3.lt
      clear hD3 hf3 HB2 HG2
      go_wp2_with fail
      refine hop.mono ?_
      clear hop
      rintro e w4 ⟨wc, en0, wh0, gn0, a0_, n0, cp0, en1, wh1, gn1, a1_, n1, cp1, hbc, hs0, hs1, hf4, hif⟩
      obtain ⟨D, rs, ra, rca, hopd, hOne, hsl, hR1⟩ := opened_one wc w3.heap.size bs0 bs1 en0 gn0 n0 en1 gn1 n1 cp0 cp1 wh0 wh1 a0_ a1_ l0 l1 hs0 hs1
      dsimp only at hif
      rw [hopd, if_pos rfl, hsl] at hif
      obtain ⟨gl, rfl, hL4, hgl, hD4⟩ := hif
      clear hs0 hs1 hopd hsl
      generalize Wa.newest wh0 wh1 gn0 gn1 = A at *
      generalize Wa.genOf wh0 gn0 wh1 gn1 = gen at *
      have HFc : Hid (Frm (Far S w3 wc) wc w4) := hf4
      have HR : Hid (Recb wc w3.heap.size ra rs.length rs) := hR1
      have HBc : Hid (Below w3.heap.size w3 wc) := hbc
      have HB4 : Hid (Below w.heap.size w w4) := (HB3.out.trans (hbc.mono HB3.out.size)).trans (hf4.below (Nat.le_trans HB3.out.size hbc.size) (fun k hk => (HSE.out k).1 hk.1))
      have hnF0 : ¬ Far S w3 wc 0 := fun h => hn0 h.1
      have HG4 : Hid (G w4) := (HG3.out.later hbc).frm hf4 hnF0
      have hgl4 : gl < w4.heap.size := heap_lt hL4
      have hwc4 : wc.heap.size ≤ w4.heap.size := hf4.size
      have h3c : w3.heap.size ≤ wc.heap.size := hbc.size
      have h03 : w.heap.size ≤ w3.heap.size := HB3.out.size
      have HL4 : Hid (Lg w4 gl w.heap.size A gen false) := hL4
      have HD4 : Hid (Dk w4 (fun k => Far S w3 wc k ∧ k ≠ gl) w.heap.size D) := hD4
      clear hf4 hR1 hbc hL4 hD4 HG3
      go_wp2_with fail
      refine (gen_any gl w.heap.size A gen w4 HL4.out).mono ?_
      rintro e w4' ⟨rfl, hw⟩
      subst w4'
      obtain ⟨hlost, hlb0, hlb1⟩ : D.lost = false ∧ D.b0.length ≤ 100000 ∧ D.b1.length ≤ 100000 := by
        obtain ⟨B, k, _, _, _, hB, _, h | h⟩ := hOne
        · obtain ⟨_, rfl⟩ := h; exact ⟨rfl, by dsimp only; omega, by simp⟩
        · obtain ⟨_, rfl⟩ := h; exact ⟨rfl, by simp, by dsimp only; omega⟩
      have hop := Open_far w.heap.size (fun k => Far S w3 wc k ∧ k ≠ gl) D w4 HG4.out HD4.out (fun k hk => ⟨⟨(HSE.out k).2 (by omega), fun h => by omega⟩, by omega⟩) (fun h => hnF0 h.1) hlost hlb0 hlb1
      go_wp2_with fail
      refine hop.mono ?_
      clear hop
      rintro e w5 ⟨wd, en0, wh0, gn0, a0_, n0, cp0, en1, wh1, gn1, a1_, n1, cp1, hbd, hs0, hs1, hf5, hif⟩
      obtain ⟨hopd, hnw, hgo, rb, rcb, hsl, hR2⟩ := opened_again wd w4.heap.size D A gen rs hOne en0 gn0 n0 en1 gn1 n1 cp0 cp1 wh0 wh1 a0_ a1_ hs0 hs1
      rw [hopd, if_pos rfl, hsl, hnw, hgo] at hif
      obtain ⟨gl2, rfl, hL5, hgl2, hD5⟩ := hif
      have hfar : Frm (Far S w3 wc) w4 w5 := (Frm.of_later hbd _).trans (hf5.mono fun k _ hk => hk.1.1)
      have HB5 : Hid (Below w.heap.size w w5) := HB4.out.trans (hfar.below HB4.out.size (fun k hk => (HSE.out k).1 hk.1))
      have HR1 : Hid (Recb w5 w3.heap.size ra rs.length rs) := HR.out.frm (HFc.out.trans hfar) (fun k h1 h2 h3 => h3.2 ⟨h1, h2⟩)
      have HR2 : Hid (Recb w5 w4.heap.size rb rs.length rs) := hR2.frm hf5 (fun k h1 h2 h3 => h3.2 ⟨h1, h2⟩)
      have HL5 : Hid (Lg w5 gl2 w.heap.size A gen false) := hL5
      obtain ⟨U, hU⟩ : ∃ U : Nat → Prop, U = fun k => Far (fun k => Far S w3 wc k ∧ k ≠ gl) w4 wd k ∧ k ≠ gl2 := ⟨_, rfl⟩
      rw [← hU] at hD5
      clear hs0 hs1 hf5 hbd hL5 hR2 hfar HFc HR HBc HG4 HL4 HD4 hopd hsl hU hgo hnw hlost hlb0 hlb1
      obtain ⟨B, k, -, -, hne, hB, hrl, h | h⟩ := hOne
      · obtain ⟨rfl, rfl⟩ := h
        have HD5 : Hid (Dk w5 U w.heap.size ⟨1000, B, B.length, [], ([] : List Nat).length, false, none⟩) := hD5
        clear hD5
        have hB1 : ((B.length : Int) == 0) = false := by simpa using hne
        have hL5 := HL5.out
        have hrd0 := dread_any w.heap.size U ⟨1000, B, B.length, ([] : List Nat), ([] : List Nat).length, false, none⟩ 0 w5 HD5.out
        rw [show (⟨1000, B, B.length, ([] : List Nat), ([] : List Nat).length, false, none⟩ : DS).read 0 = (B, 0) from rfl] at hrd0
        dsimp only at hrd0
        go_wp2_with fail
        refine hrd0.mono ?_
        clear hrd0
        rintro e w6 ⟨x6, rfl, ho6, hb6⟩
        obtain ⟨xa, xn, xc, rfl, hxr, -⟩ := ho6.slice
        have hxn : xn = B.length := hxr.1.symm
        subst hxn
        have HD6 : Hid (Dk w6 U w.heap.size ⟨1000, B, B.length, ([] : List Nat), ([] : List Nat).length, false, none⟩) := HD5.out.later hb6
        have HB56 : Hid (Below w5.heap.size w5 w6) := hb6
        clear ho6 hxr hb6
        have hrd1 := dread_any w.heap.size U ⟨1000, B, B.length, ([] : List Nat), ([] : List Nat).length, false, none⟩ 1 w6 HD6.out
        rw [show (⟨1000, B, B.length, ([] : List Nat), ([] : List Nat).length, false, none⟩ : DS).read 1 = (([] : List Nat), 0) from rfl] at hrd1
        dsimp only at hrd1
        go_wp2_with fail
        refine hrd1.mono ?_
        clear hrd1
        rintro e w7 ⟨y7, rfl, ho7, hb7⟩
        obtain ⟨ya, yn, yc, rfl, hyr, -⟩ := ho7.slice
        have hyn : yn = ([] : List Nat).length := hyr.1.symm
        subst hyn
        have HD7 : Hid (Dk w7 U w.heap.size ⟨1000, B, B.length, ([] : List Nat), ([] : List Nat).length, false, none⟩) := HD6.out.later hb7
        have HB57 : Hid (Below w5.heap.size w5 w7) := HB56.out.trans (hb7.mono HB56.out.size)
        clear ho7 hyr hb7
        have hsm := same_any ra rb rs.length rca rcb rs w7 (by omega) (HR1.out.later HB57.out).recv (HR2.out.later HB57.out).recv
        go_wp2_with fail
        refine hsm.mono ?_
        clear hsm
        rintro e w8 ⟨rfl, hb8⟩
        have HB58 : Hid (Below w5.heap.size w5 w8) := HB57.out.trans (hb8.mono HB57.out.size)
        have HD8 : Hid (Dk w8 U w.heap.size ⟨1000, B, B.length, ([] : List Nat), ([] : List Nat).length, false, none⟩) := HD7.out.later hb8
        clear hb8
        have hgn := gen_any gl2 w.heap.size 0 gen w8 (hL5.later HB58.out)
        go_wp2_with fail
        refine hgn.mono ?_
        clear hgn
        rintro e w9 ⟨rfl, hw⟩
        subst w9
        have hs0 := dsure_any w.heap.size U ⟨1000, B, B.length, ([] : List Nat), ([] : List Nat).length, false, none⟩ 0 w8 HD8.out
        rw [show (⟨1000, B, B.length, ([] : List Nat), ([] : List Nat).length, false, none⟩ : DS).sureOf 0 = B.length from rfl] at hs0
        go_wp2_with fail
        refine hs0.mono ?_
        clear hs0
        rintro e w9 ⟨rfl, hw⟩
        subst w9
        have hs1 := dsure_any w.heap.size U ⟨1000, B, B.length, ([] : List Nat), ([] : List Nat).length, false, none⟩ 1 w8 HD8.out
        rw [show (⟨1000, B, B.length, ([] : List Nat), ([] : List Nat).length, false, none⟩ : DS).sureOf 1 = ([] : List Nat).length from rfl] at hs1
        go_wp2_with fail
        refine hs1.mono ?_
        clear hs1
        rintro e w9 ⟨rfl, hw⟩
        subst w9
        have HB8 : Hid (Below w.heap.size w w8) := HB5.out.trans (HB58.out.mono HB5.out.size)
        go_wp2_with fail
        refine (awake6_any w8 (HG.out.later HB8.out)).mono ?_
        rintro e w9 ⟨rfl, hb9⟩
        go_wp2
        go_ret
        exact ⟨rfl, HB8.out.trans (hb9.mono HB8.out.size)⟩
      · obtain ⟨rfl, rfl⟩ := h
        have HD5 : Hid (Dk w5 U w.heap.size ⟨1000, [], ([] : List Nat).length, B, B.length, false, none⟩) := hD5
        clear hD5
        have hB1 : ((B.length : Int) == 0) = false := by simpa using hne
        have hL5 := HL5.out
        have hrd0 := dread_any w.heap.size U ⟨1000, ([] : List Nat), ([] : List Nat).length, B, B.length, false, none⟩ 0 w5 HD5.out
        rw [show (⟨1000, ([] : List Nat), ([] : List Nat).length, B, B.length, false, none⟩ : DS).read 0 = (([] : List Nat), 0) from rfl] at hrd0
        dsimp only at hrd0
        go_wp2_with fail
        refine hrd0.mono ?_
        clear hrd0
        rintro e w6 ⟨x6, rfl, ho6, hb6⟩
        obtain ⟨xa, xn, xc, rfl, hxr, -⟩ := ho6.slice
        have hxn : xn = ([] : List Nat).length := hxr.1.symm
        subst hxn
        have HD6 : Hid (Dk w6 U w.heap.size ⟨1000, ([] : List Nat), ([] : List Nat).length, B, B.length, false, none⟩) := HD5.out.later hb6
        have HB56 : Hid (Below w5.heap.size w5 w6) := hb6
        clear ho6 hxr hb6
        have hrd1 := dread_any w.heap.size U ⟨1000, ([] : List Nat), ([] : List Nat).length, B, B.length, false, none⟩ 1 w6 HD6.out
        rw [show (⟨1000, ([] : List Nat), ([] : List Nat).length, B, B.length, false, none⟩ : DS).read 1 = (B, 0) from rfl] at hrd1
        dsimp only at hrd1
        go_wp2_with fail
        refine hrd1.mono ?_
        clear hrd1
        rintro e w7 ⟨y7, rfl, ho7, hb7⟩
        obtain ⟨ya, yn, yc, rfl, hyr, -⟩ := ho7.slice
        have hyn : yn = B.length := hyr.1.symm
        subst hyn
        have HD7 : Hid (Dk w7 U w.heap.size ⟨1000, ([] : List Nat), ([] : List Nat).length, B, B.length, false, none⟩) := HD6.out.later hb7
        have HB57 : Hid (Below w5.heap.size w5 w7) := HB56.out.trans (hb7.mono HB56.out.size)
        clear ho7 hyr hb7
        have hsm := same_any ra rb rs.length rca rcb rs w7 (by omega) (HR1.out.later HB57.out).recv (HR2.out.later HB57.out).recv
        go_wp2_with fail
        refine hsm.mono ?_
        clear hsm
        rintro e w8 ⟨rfl, hb8⟩
        have HB58 : Hid (Below w5.heap.size w5 w8) := HB57.out.trans (hb8.mono HB57.out.size)
        have HD8 : Hid (Dk w8 U w.heap.size ⟨1000, ([] : List Nat), ([] : List Nat).length, B, B.length, false, none⟩) := HD7.out.later hb8
        clear hb8
        have hgn := gen_any gl2 w.heap.size 1 gen w8 (hL5.later HB58.out)
        go_wp2_with fail
        refine hgn.mono ?_
        clear hgn
        rintro e w9 ⟨rfl, hw⟩
        subst w9
        have hs0 := dsure_any w.heap.size U ⟨1000, ([] : List Nat), ([] : List Nat).length, B, B.length, false, none⟩ 0 w8 HD8.out
        rw [show (⟨1000, ([] : List Nat), ([] : List Nat).length, B, B.length, false, none⟩ : DS).sureOf 0 = ([] : List Nat).length from rfl] at hs0
        go_wp2_with fail
        refine hs0.mono ?_
        clear hs0
        rintro e w9 ⟨rfl, hw⟩
        subst w9
        have hs1 := dsure_any w.heap.size U ⟨1000, ([] : List Nat), ([] : List Nat).length, B, B.length, false, none⟩ 1 w8 HD8.out
        rw [show (⟨1000, ([] : List Nat), ([] : List Nat).length, B, B.length, false, none⟩ : DS).sureOf 1 = B.length from rfl] at hs1
        go_wp2_with fail
        refine hs1.mono ?_
        clear hs1
        rintro e w9 ⟨rfl, hw⟩
        subst w9
        have HB8 : Hid (Below w.heap.size w w8) := HB5.out.trans (HB58.out.mono HB5.out.size)
        go_wp2_with fail
        refine (awake6_any w8 (HG.out.later HB8.out)).mono ?_
        rintro e w9 ⟨rfl, hb9⟩
        go_wp2
        go_ret
        exact ⟨rfl, HB8.out.trans (hb9.mono HB8.out.size)⟩
    · have rb0 := w0.row 200 (by omega)
      obtain ⟨ab0, ao0, rfl⟩ := w0.addr (by omega)
      generalize firsts z0 200 = bs0 at rb0
      have rb1 := w1.row 200 (by omega)
      obtain ⟨ab1, ao1, rfl⟩ := w1.addr (by omega)
      generalize firsts z1 200 = bs1 at rb1
      have l0 : bs0.length ≤ 200 := by have := rb0.1; omega
      have l1 : bs1.length ≤ 200 := by have := rb1.1; omega
      have sub1 := rb1.sub
      have HF : Hid (_ ∧ _) := ⟨fc0, fc1⟩
      clear w0 w1
      go_enter Tryd.func3, Tryd.ntmps3
      go_wp2_with fail
      refine (dnew_any 1000 w S (fun k hk => (HSE.out k).2 hk)).mono ?_
      rintro e w1 ⟨rfl, hD1, hb1⟩
      rw [show min (1000 : Int).toNat 1048576 = 1000 from rfl] at hD1
      have HG1 : Hid (G w1) := HG.out.later hb1
      have HB1 : Hid (Below w.heap.size w w1) := hb1
      have hz1 := hb1.size
      have hap := dappend_any w.heap.size S (DS.new 1000) 0 (some ⟨ab0, ao0, none⟩) 200 cap0 bs0 w1 hD1 (fun k hk => (HSE.out k).2 (Nat.le_trans hz1 hk)) (rb0.later hb1) f0
      rw [appends0 bs0 l0] at hap
      dsimp only at hap
      have rb1w := rb1.later hb1
      clear hD1 hb1 rb0
      go_wp2_with fail
      refine hap.mono ?_
      clear hap
      rintro e w2 ⟨rfl, hD2, hf2⟩
      have hz2 := hf2.size
      have HB2 : Hid (Below w.heap.size w w2) := HB1.out.trans (hf2.below hz1 (fun k hk => (HSE.out k).1 hk))
      have HG2 : Hid (G w2) := HG1.out.frm hf2 hn0
      have rb2 := rb1w.fr hf2 (fun x hx h0 hs => by have h1 := (HSE.out _).1 hs; have h2 := sub1 x hx h0; omega)
      have hap := dappend_any w.heap.size S ⟨1000, bs0, 0, [], 0, false, none⟩ 1 (some ⟨ab1, ao1, none⟩) 200 cap1 bs1 w2 hD2 (fun k hk => (HSE.out k).2 (Nat.le_trans (Nat.le_trans hz1 hz2) hk)) rb2 f1
      rw [appends1 bs0 bs1 l0 l1] at hap
      dsimp only at hap
      clear hD2 hf2 rb1w rb2 sub1 HB1 HG1
      go_wp2_with fail
      refine hap.mono ?_
      clear hap
      rintro e w3 ⟨rfl, hD3, hf3⟩
      have HB3 : Hid (Below w.heap.size w w3) := HB2.out.trans (hf3.below (Nat.le_trans hz1 hz2) (fun k hk => (HSE.out k).1 hk))
      have HG3 : Hid (G w3) := HG2.out.frm hf3 hn0
      have hop := Open_far w.heap.size S ⟨1000, bs0, 0, bs1, 0, false, none⟩ w3 HG3.out hD3 (fun k hk => (HSE.out k).2 (Nat.le_trans HB3.out.size hk)) hn0 rfl (by dsimp only; omega) (by dsimp only; omega)
      have hgw3 := hD3.lt
      clear hD3 hf3 HB2 HG2
      go_wp2_with fail
      refine hop.mono ?_
      clear hop
      rintro e w4 ⟨wc, en0, wh0, gn0, a0_, n0, cp0, en1, wh1, gn1, a1_, n1, cp1, hbc, hs0, hs1, hf4, hif⟩
      obtain ⟨D, rs, ra, rca, hopd, hOne, hsl, hR1⟩ := opened_one wc w3.heap.size bs0 bs1 en0 gn0 n0 en1 gn1 n1 cp0 cp1 wh0 wh1 a0_ a1_ l0 l1 hs0 hs1
      dsimp only at hif
      rw [hopd, if_pos rfl, hsl] at hif
      obtain ⟨gl, rfl, hL4, hgl, hD4⟩ := hif
      clear hs0 hs1 hopd hsl
      generalize Wa.newest wh0 wh1 gn0 gn1 = A at *
      generalize Wa.genOf wh0 gn0 wh1 gn1 = gen at *
      have HFc : Hid (Frm (Far S w3 wc) wc w4) := hf4
      have HR : Hid (Recb wc w3.heap.size ra rs.length rs) := hR1
      have HBc : Hid (Below w3.heap.size w3 wc) := hbc
      have HB4 : Hid (Below w.heap.size w w4) := (HB3.out.trans (hbc.mono HB3.out.size)).trans (hf4.below (Nat.le_trans HB3.out.size hbc.size) (fun k hk => (HSE.out k).1 hk.1))
      have hnF0 : ¬ Far S w3 wc 0 := fun h => hn0 h.1
      have HG4 : Hid (G w4) := (HG3.out.later hbc).frm hf4 hnF0
      have hgl4 : gl < w4.heap.size := heap_lt hL4
      have hwc4 : wc.heap.size ≤ w4.heap.size := hf4.size
      have h3c : w3.heap.size ≤ wc.heap.size := hbc.size
      have h03 : w.heap.size ≤ w3.heap.size := HB3.out.size
      have HL4 : Hid (Lg w4 gl w.heap.size A gen false) := hL4
      have HD4 : Hid (Dk w4 (fun k => Far S w3 wc k ∧ k ≠ gl) w.heap.size D) := hD4
      clear hf4 hR1 hbc hL4 hD4 HG3
      go_wp2_with fail
      refine (gen_any gl w.heap.size A gen w4 HL4.out).mono ?_
      rintro e w4' ⟨rfl, hw⟩
      subst w4'
      obtain ⟨hlost, hlb0, hlb1⟩ : D.lost = false ∧ D.b0.length ≤ 100000 ∧ D.b1.length ≤ 100000 := by
        obtain ⟨B, k, _, _, _, hB, _, h | h⟩ := hOne
        · obtain ⟨_, rfl⟩ := h; exact ⟨rfl, by dsimp only; omega, by simp⟩
        · obtain ⟨_, rfl⟩ := h; exact ⟨rfl, by simp, by dsimp only; omega⟩
      have hop := Open_far w.heap.size (fun k => Far S w3 wc k ∧ k ≠ gl) D w4 HG4.out HD4.out (fun k hk => ⟨⟨(HSE.out k).2 (by omega), fun h => by omega⟩, by omega⟩) (fun h => hnF0 h.1) hlost hlb0 hlb1
      go_wp2_with fail
      refine hop.mono ?_
      clear hop
      rintro e w5 ⟨wd, en0, wh0, gn0, a0_, n0, cp0, en1, wh1, gn1, a1_, n1, cp1, hbd, hs0, hs1, hf5, hif⟩
      obtain ⟨hopd, hnw, hgo, rb, rcb, hsl, hR2⟩ := opened_again wd w4.heap.size D A gen rs hOne en0 gn0 n0 en1 gn1 n1 cp0 cp1 wh0 wh1 a0_ a1_ hs0 hs1
      rw [hopd, if_pos rfl, hsl, hnw, hgo] at hif
      obtain ⟨gl2, rfl, hL5, hgl2, hD5⟩ := hif
      have hfar : Frm (Far S w3 wc) w4 w5 := (Frm.of_later hbd _).trans (hf5.mono fun k _ hk => hk.1.1)
      have HB5 : Hid (Below w.heap.size w w5) := HB4.out.trans (hfar.below HB4.out.size (fun k hk => (HSE.out k).1 hk.1))
      have HR1 : Hid (Recb w5 w3.heap.size ra rs.length rs) := HR.out.frm (HFc.out.trans hfar) (fun k h1 h2 h3 => h3.2 ⟨h1, h2⟩)
      have HR2 : Hid (Recb w5 w4.heap.size rb rs.length rs) := hR2.frm hf5 (fun k h1 h2 h3 => h3.2 ⟨h1, h2⟩)
      have HL5 : Hid (Lg w5 gl2 w.heap.size A gen false) := hL5
      obtain ⟨U, hU⟩ : ∃ U : Nat → Prop, U = fun k => Far (fun k => Far S w3 wc k ∧ k ≠ gl) w4 wd k ∧ k ≠ gl2 := ⟨_, rfl⟩
      rw [← hU] at hD5
      clear hs0 hs1 hf5 hbd hL5 hR2 hfar HFc HR HBc HG4 HL4 HD4 hopd hsl hU hgo hnw hlost hlb0 hlb1
      obtain ⟨B, k, -, -, hne, hB, hrl, h | h⟩ := hOne
      · obtain ⟨rfl, rfl⟩ := h
        have HD5 : Hid (Dk w5 U w.heap.size ⟨1000, B, B.length, [], ([] : List Nat).length, false, none⟩) := hD5
        clear hD5
        have hB1 : ((B.length : Int) == 0) = false := by simpa using hne
        have hL5 := HL5.out
        have hrd0 := dread_any w.heap.size U ⟨1000, B, B.length, ([] : List Nat), ([] : List Nat).length, false, none⟩ 0 w5 HD5.out
        rw [show (⟨1000, B, B.length, ([] : List Nat), ([] : List Nat).length, false, none⟩ : DS).read 0 = (B, 0) from rfl] at hrd0
        dsimp only at hrd0
        go_wp2_with fail
        refine hrd0.mono ?_
        clear hrd0
        rintro e w6 ⟨x6, rfl, ho6, hb6⟩
        obtain ⟨xa, xn, xc, rfl, hxr, -⟩ := ho6.slice
        have hxn : xn = B.length := hxr.1.symm
        subst hxn
        have HD6 : Hid (Dk w6 U w.heap.size ⟨1000, B, B.length, ([] : List Nat), ([] : List Nat).length, false, none⟩) := HD5.out.later hb6
        have HB56 : Hid (Below w5.heap.size w5 w6) := hb6
        clear ho6 hxr hb6
        have hrd1 := dread_any w.heap.size U ⟨1000, B, B.length, ([] : List Nat), ([] : List Nat).length, false, none⟩ 1 w6 HD6.out
        rw [show (⟨1000, B, B.length, ([] : List Nat), ([] : List Nat).length, false, none⟩ : DS).read 1 = (([] : List Nat), 0) from rfl] at hrd1
        dsimp only at hrd1
        go_wp2_with fail
        refine hrd1.mono ?_
        clear hrd1
        rintro e w7 ⟨y7, rfl, ho7, hb7⟩
        obtain ⟨ya, yn, yc, rfl, hyr, -⟩ := ho7.slice
        have hyn : yn = ([] : List Nat).length := hyr.1.symm
        subst hyn
        have HD7 : Hid (Dk w7 U w.heap.size ⟨1000, B, B.length, ([] : List Nat), ([] : List Nat).length, false, none⟩) := HD6.out.later hb7
        have HB57 : Hid (Below w5.heap.size w5 w7) := HB56.out.trans (hb7.mono HB56.out.size)
        clear ho7 hyr hb7
        have hsm := same_any ra rb rs.length rca rcb rs w7 (by omega) (HR1.out.later HB57.out).recv (HR2.out.later HB57.out).recv
        go_wp2_with fail
        refine hsm.mono ?_
        clear hsm
        rintro e w8 ⟨rfl, hb8⟩
        have HB58 : Hid (Below w5.heap.size w5 w8) := HB57.out.trans (hb8.mono HB57.out.size)
        have HD8 : Hid (Dk w8 U w.heap.size ⟨1000, B, B.length, ([] : List Nat), ([] : List Nat).length, false, none⟩) := HD7.out.later hb8
        clear hb8
        have hgn := gen_any gl2 w.heap.size 0 gen w8 (hL5.later HB58.out)
        go_wp2_with fail
        refine hgn.mono ?_
        clear hgn
        rintro e w9 ⟨rfl, hw⟩
        subst w9
        have hs0 := dsure_any w.heap.size U ⟨1000, B, B.length, ([] : List Nat), ([] : List Nat).length, false, none⟩ 0 w8 HD8.out
        rw [show (⟨1000, B, B.length, ([] : List Nat), ([] : List Nat).length, false, none⟩ : DS).sureOf 0 = B.length from rfl] at hs0
        go_wp2_with fail
        refine hs0.mono ?_
        clear hs0
        rintro e w9 ⟨rfl, hw⟩
        subst w9
        have hs1 := dsure_any w.heap.size U ⟨1000, B, B.length, ([] : List Nat), ([] : List Nat).length, false, none⟩ 1 w8 HD8.out
        rw [show (⟨1000, B, B.length, ([] : List Nat), ([] : List Nat).length, false, none⟩ : DS).sureOf 1 = ([] : List Nat).length from rfl] at hs1
        go_wp2_with fail
        refine hs1.mono ?_
        clear hs1
        rintro e w9 ⟨rfl, hw⟩
        subst w9
        have HB8 : Hid (Below w.heap.size w w8) := HB5.out.trans (HB58.out.mono HB5.out.size)
        go_wp2_with fail
        refine (awake6_any w8 (HG.out.later HB8.out)).mono ?_
        rintro e w9 ⟨rfl, hb9⟩
        go_wp2
        go_ret
        exact ⟨rfl, HB8.out.trans (hb9.mono HB8.out.size)⟩
      · obtain ⟨rfl, rfl⟩ := h
        have HD5 : Hid (Dk w5 U w.heap.size ⟨1000, [], ([] : List Nat).length, B, B.length, false, none⟩) := hD5
        clear hD5
        have hB1 : ((B.length : Int) == 0) = false := by simpa using hne
        have hL5 := HL5.out
        have hrd0 := dread_any w.heap.size U ⟨1000, ([] : List Nat), ([] : List Nat).length, B, B.length, false, none⟩ 0 w5 HD5.out
        rw [show (⟨1000, ([] : List Nat), ([] : List Nat).length, B, B.length, false, none⟩ : DS).read 0 = (([] : List Nat), 0) from rfl] at hrd0
        dsimp only at hrd0
        go_wp2_with fail
        refine hrd0.mono ?_
        clear hrd0
        rintro e w6 ⟨x6, rfl, ho6, hb6⟩
        obtain ⟨xa, xn, xc, rfl, hxr, -⟩ := ho6.slice
        have hxn : xn = ([] : List Nat).length := hxr.1.symm
        subst hxn
        have HD6 : Hid (Dk w6 U w.heap.size ⟨1000, ([] : List Nat), ([] : List Nat).length, B, B.length, false, none⟩) := HD5.out.later hb6
        have HB56 : Hid (Below w5.heap.size w5 w6) := hb6
        clear ho6 hxr hb6
        have hrd1 := dread_any w.heap.size U ⟨1000, ([] : List Nat), ([] : List Nat).length, B, B.length, false, none⟩ 1 w6 HD6.out
        rw [show (⟨1000, ([] : List Nat), ([] : List Nat).length, B, B.length, false, none⟩ : DS).read 1 = (B, 0) from rfl] at hrd1
        dsimp only at hrd1
        go_wp2_with fail
        refine hrd1.mono ?_
        clear hrd1
        rintro e w7 ⟨y7, rfl, ho7, hb7⟩
        obtain ⟨ya, yn, yc, rfl, hyr, -⟩ := ho7.slice
        have hyn : yn = B.length := hyr.1.symm
        subst hyn
        have HD7 : Hid (Dk w7 U w.heap.size ⟨1000, ([] : List Nat), ([] : List Nat).length, B, B.length, false, none⟩) := HD6.out.later hb7
        have HB57 : Hid (Below w5.heap.size w5 w7) := HB56.out.trans (hb7.mono HB56.out.size)
        clear ho7 hyr hb7
        have hsm := same_any ra rb rs.length rca rcb rs w7 (by omega) (HR1.out.later HB57.out).recv (HR2.out.later HB57.out).recv
        go_wp2_with fail
        refine hsm.mono ?_
        clear hsm
        rintro e w8 ⟨rfl, hb8⟩
        have HB58 : Hid (Below w5.heap.size w5 w8) := HB57.out.trans (hb8.mono HB57.out.size)
        have HD8 : Hid (Dk w8 U w.heap.size ⟨1000, ([] : List Nat), ([] : List Nat).length, B, B.length, false, none⟩) := HD7.out.later hb8
        clear hb8
        have hgn := gen_any gl2 w.heap.size 1 gen w8 (hL5.later HB58.out)
        go_wp2_with fail
        refine hgn.mono ?_
        clear hgn
        rintro e w9 ⟨rfl, hw⟩
        subst w9
        have hs0 := dsure_any w.heap.size U ⟨1000, ([] : List Nat), ([] : List Nat).length, B, B.length, false, none⟩ 0 w8 HD8.out
        rw [show (⟨1000, ([] : List Nat), ([] : List Nat).length, B, B.length, false, none⟩ : DS).sureOf 0 = ([] : List Nat).length from rfl] at hs0
        go_wp2_with fail
        refine hs0.mono ?_
        clear hs0
        rintro e w9 ⟨rfl, hw⟩
        subst w9
        have hs1 := dsure_any w.heap.size U ⟨1000, ([] : List Nat), ([] : List Nat).length, B, B.length, false, none⟩ 1 w8 HD8.out
        rw [show (⟨1000, ([] : List Nat), ([] : List Nat).length, B, B.length, false, none⟩ : DS).sureOf 1 = B.length from rfl] at hs1
        go_wp2_with fail
        refine hs1.mono ?_
        clear hs1
        rintro e w9 ⟨rfl, hw⟩
        subst w9
        have HB8 : Hid (Below w.heap.size w w8) := HB5.out.trans (HB58.out.mono HB5.out.size)
        go_wp2_with fail
        refine (awake6_any w8 (HG.out.later HB8.out)).mono ?_
        rintro e w9 ⟨rfl, hb9⟩
        go_wp2
        go_ret
        exact ⟨rfl, HB8.out.trans (hb9.mono HB8.out.size)⟩

/-! From the call to the statement. -/
set_option maxRecDepth 100000 in
theorem lifted (os : Os) (started : os.Started) (H : Type) (enc : TypeId × Value → H) :
    ReturnsInHanded {} Tryd.checked os 3 .any (fun w args => (Rows.walOpensSpec.pre enc Tryd.prog Tryd.f3 [] false w args ∧ laidMetH Tryd.prog listed w) ∧ sizedMet enc Tryd.prog Tryd.f3 (OpenSpec.ofChange Rows.walOpensSpec) false w args)
      (Rows.walOpensSpec.post enc Tryd.prog Tryd.f3 false true false false) := by
  refine returnsInHanded_of_change_and (C := Tryd.checked) (X := fun w _ => laidMetH Tryd.prog listed w) (fun _ _ _ hh h => h.of_heap hh) Fa.own started (by kernel_rfl) Tryd.func3
    (ChangeSpec.witness_shaped (enc := enc) (C := Tryd.checked) (os := os) (X := fun w _ => laidMetH Tryd.prog listed w) false (World.doorLaid Tryd.prog 400 os) #[.slice none 0 0, .slice none 0 0] 8 rfl (World.shaped_of_RefB (by kernel_rfl) (by kernel_rfl)) (by kernel_rfl) (by kernel_rfl) (by kernel_rfl) (door_met os _)) ?_
  intro W base args ds gs before hval0 hW _ _ hL _
  have hval : ∀ (j : Nat) t v, Tryd.f3.params[j]? = some t → args[j]? = some v → Value.okWide Tryd.prog W .any base t v := hval0
  have hW' := hW
  obtain ⟨p, q, hA0, hV, rfl, hfz, hnd⟩ := hW
  have hA : DataW.TrodAll enc Tryd.prog W 0 (fun _ => true) true Tryd.f3.params.toList args.toList ds p := hA0
  rw [Tryd.params3] at hA hval
  obtain ⟨v0, vs0, d0, ds0, p0, q0, hargs, rfl, rfl, h0, r0⟩ := trodAll_cons hA
  obtain ⟨v1, vs1, d1, ds1, p1, q1, rfl, rfl, rfl, h1, r1⟩ := trodAll_cons r0
  obtain ⟨rfl, rfl, rfl⟩ := trodAll_nil r1
  obtain rfl : args = #[v0, v1] := by cases args; simp_all
  obtain ⟨rfl, rfl⟩ := trodVars_none hV
  obtain ⟨a0, len0, cap0, rfl⟩ := okWide_slice Tryd.underlying22 (hval 0 22 v0 rfl rfl)
  have k0 := h0
  have lt0 : ∀ x ∈ p0, x.block < W.heap.size := by obtain ⟨m, hm⟩ := k0; exact DataW.trod_lt m _ _ _ hm
  obtain ⟨z0, w0⟩ : ∃ zs, IsRow .u8 W a0 len0 cap0 zs := by
    obtain ⟨fuel, hf⟩ := h0
    rcases open_ints Tryd.underlying22 Tryd.underlying5 (by kernel_rfl) hf with ⟨hcs, _⟩ | ⟨x, l, c, zs, hcs, _, hl, hm, hz, _, hcell, hwz⟩
    · simp [Value.cells] at hcs
      obtain ⟨rfl, rfl, rfl⟩ := hcs
      exact ⟨[], .inl ⟨rfl, rfl, rfl, rfl⟩⟩
    · simp [Value.cells] at hcs
      obtain ⟨rfl, rfl, rfl⟩ := hcs
      exact ⟨zs, .inr ⟨_, rfl, hl, hm, by simpa using hz, hcell, hwz⟩⟩
  obtain ⟨a1, len1, cap1, rfl⟩ := okWide_slice Tryd.underlying22 (hval 1 22 v1 rfl rfl)
  have k1 := h1
  have lt1 : ∀ x ∈ p1, x.block < W.heap.size := by obtain ⟨m, hm⟩ := k1; exact DataW.trod_lt m _ _ _ hm
  obtain ⟨z1, w1⟩ : ∃ zs, IsRow .u8 W a1 len1 cap1 zs := by
    obtain ⟨fuel, hf⟩ := h1
    rcases open_ints Tryd.underlying22 Tryd.underlying5 (by kernel_rfl) hf with ⟨hcs, _⟩ | ⟨x, l, c, zs, hcs, _, hl, hm, hz, _, hcell, hwz⟩
    · simp [Value.cells] at hcs
      obtain ⟨rfl, rfl, rfl⟩ := hcs
      exact ⟨[], .inl ⟨rfl, rfl, rfl, rfl⟩⟩
    · simp [Value.cells] at hcs
      obtain ⟨rfl, rfl, rfl⟩ := hcs
      exact ⟨zs, .inr ⟨_, rfl, hl, hm, by simpa using hz, hcell, hwz⟩⟩
  clear hA0 hval0
  refine (walk a0 len0 cap0 z0 a1 len1 cap1 z1 W (G.of_laid hL) w0 w1).mono fun e W' ⟨he, bel⟩ => ?_
  subst he
  exact ⟨_, rfl, _, _, _, [], _, [], hW', trodAll_mk1 (shut_bool Tryd.underlying4 _), (trodAll_cons_mk (Below.trod laidOut (by kernel_rfl) (of_decide_eq_true (by kernel_rfl)) k0 bel lt0) (trodAll_cons_mk (Below.trod laidOut (by kernel_rfl) (of_decide_eq_true (by kernel_rfl)) k1 bel lt1) trodAll_mk0)), rfl, bel.frame _, fun h => by cases h⟩

theorem over : Rows.walOpensRow.holds Tryd.pinned (OpenSpec.ofChange Rows.walOpensSpec) :=
  OpenClaim.holds_of_wide 3 Tryd.f3 rfl rfl rfl rfl rfl rfl rfl ⟨rfl, rfl, rfl, rfl, rfl⟩ rfl rfl rfl rfl rfl (by kernel_rfl) Tryd.func3 (by kernel_rfl)
    (of_decide_eq_true (by kernel_rfl)) (by unfold Func.isWrapper; rw [if_neg (of_decide_eq_false (by kernel_rfl))]; exact ⟨rfl, rfl⟩)
    (fun os started H enc _ => lifted os started H enc)
end Go.Proofs.YtmlpneiadkngaaaDoor.walOpens
namespace Go.Proofs.YtmlpneiadkngaaaDoor
open Go
set_option maxRecDepth 100000 in
theorem walOpens_holds : Rows.WalOpensCardSaid :=
  Claim7.holds_tied_plain_at .later [] [.handle] true (true, "673bfac6c42d79e7ca8d3ec62fd3a7c68cc0ad50ae24e01740fa6ee1ca2771be") true
    walOpens.over (fun _ h => by cases h) (by kernel_rfl) (fun _ h => by cases h) walOpens_row_tie rfl ⟨rfl, rfl⟩ (by kernel_rfl) rfl
    (fun f fn hf hfn => by
      obtain rfl : f = 3 := Option.some.inj ((show Tryd.prog.funcNamed Rows.walOpensRow.func = some 3 by kernel_rfl).symm.trans hf) |>.symm
      obtain rfl : fn = Tryd.f3 := (Option.some.inj (Tryd.func3.symm.trans hfn)).symm
      exact ⟨by kernel_rfl, fun j t ht => by
        rw [Tryd.params3] at ht
        match j, ht with
        | 0, ht =>
          obtain rfl : t = 22 := by simpa using ht.symm
          exact (show Tryd.prog.wantsStandIn 22 = false by kernel_rfl)
        | 1, ht =>
          obtain rfl : t = 22 := by simpa using ht.symm
          exact (show Tryd.prog.wantsStandIn 22 = false by kernel_rfl)
        | j + 2, ht => simp at ht⟩)
    (by kernel_rfl)
#print axioms walOpens_holds
end Go.Proofs.YtmlpneiadkngaaaDoor
