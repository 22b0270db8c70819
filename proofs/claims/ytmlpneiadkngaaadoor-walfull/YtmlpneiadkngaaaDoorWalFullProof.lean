/-
  What does not fit is refused, and changes nothing, and the records are as they were: the law WalFull returns true at any room and any records, and does not change them. Condition: package errors' own variable errorType lies as its text lays it.
-/
import Derived.Test.YtmlpneiadkngaaaDoorRows
import Derived.Test.YtmlpneiadkngaaaDoorCards
import Derived.Test.YtmlpneiadkngaaaDoorTie
import Derived.Test.YtmlpneiadkngaaaDoorDoor
import Derived.Test.YtmlpneiadkngaaaDoorWaR
import Derived.WalkKit
import Derived.ProofKit
import Derived.OpenShut
import Derived.ShutString
import Derived.ChangeOld
import Derived.Below
import Derived.SevenTiedAt
import Derived.Deep.Matrix
namespace Go.Proofs.YtmlpneiadkngaaaDoor.walFull
open Go.ChangeShapes Go.WideShapes Go.ChangeAt Go.RowKit
open Go.ChangeMaps (open_string shut_string)
set_option linter.unusedSimpArgs false
set_option linter.unusedVariables false

theorem laidOut : laidOutB Tryd.prog = true := by kernel_rfl

theorem cut_any (a : Option Addr) (len cap : Nat) (bs : List Nat) (w : World) (hr : Row w a len bs) (hc : len ≤ cap) (hm : cap ≤ maxLen) :
    Calls Tryd.prog 14 #[.slice a len cap] w fun e w' => e = .returned (.slice a (min len 40) cap) ∧ w' = w := by
  unfold maxLen at hm
  by_cases hl : len ≤ 40
  · rw [Nat.min_eq_left hl]
    go_enter Tryd.func14, Tryd.ntmps14
    go_wp2
    go_ret
    exact ⟨rfl, rfl⟩
  · rw [Nat.min_eq_right (by omega)]
    obtain ⟨b, off, rfl, -⟩ := hr.at (by omega)
    go_enter Tryd.func14, Tryd.ntmps14
    go_wp2
    go_ret
    exact ⟨rfl, rfl⟩

/-- what holds ahead of each round -/
def Full (w : World) (R gl k : Nat) (o : Value) (wr : World) : Prop :=
  ∃ (T : Nat → Prop) (ps : List (List Nat)), Lg wr gl w.heap.size 0 1 false ∧ Dk wr T w.heap.size (Dl R ps 10) ∧ RecT wr w.heap.size T o ps ∧ Wa.May ps ∧ ps.length ≤ k ∧ G wr ∧ Below w.heap.size w wr ∧ (∀ k, wr.heap.size ≤ k → T k) ∧ ¬ T gl ∧ (∀ k, T k → w.heap.size ≤ k)

/-! The law returns true, and writes nothing that was there. -/
set_option maxRecDepth 100000 in
set_option maxHeartbeats 8000000 in
theorem walk (a0 : Int) (a1 : Option Addr) (len1 cap1 : Nat) (A1 : Nat → Option Addr) (L1 C1 : Nat → Nat) (Z1 : Nat → List Int) (w : World) (hg : G w) (w0 : (Lit.int .u8 a0).wf = true) (w1 : Rowss w a1 len1 cap1 A1 L1 C1 Z1) :
    Calls Tryd.prog 4 #[.int .u8 a0, .slice a1 len1 cap1] w fun e w' => e = .returned (.bool true) ∧ Below w.heap.size w w' := by
  obtain ⟨r, rfl⟩ : ∃ r : Nat, a0 = r := ⟨a0.toNat, by have := bounds_u8 w0; omega⟩
  have hr : r < 256 := by have := bounds_u8 w0; omega
  clear w0
  have HG : Hid (G w) := hg
  have hpos := hg.pos
  obtain ⟨S, hSe⟩ : ∃ S : Nat → Prop, S = fun k => w.heap.size ≤ k := ⟨_, rfl⟩
  have HSE : Hid (∀ k, S k ↔ w.heap.size ≤ k) := fun k => by rw [hSe]
  have hn0 : ¬ S 0 := fun h => by have := (HSE.out 0).1 h; omega
  clear hSe hg
  have HRW : Hid (Rowss w a1 len1 cap1 A1 L1 C1 Z1) := w1
  clear w1
  go_enter Tryd.func4, Tryd.ntmps4
  go_wp2_with fail
  refine (dnew_any _ w S (fun k hk => (HSE.out k).2 hk)).mono ?_
  rintro e w1 ⟨rfl, hD1, hb1⟩
  rw [show min ((20 : Int) + (r : Int)).toNat 1048576 = 20 + r by omega] at hD1
  have HB1 : Hid (Below w.heap.size w w1) := hb1
  have hop := Open_far w.heap.size S (DS.new (20 + r)) w1 (HG.out.later hb1) hD1 (fun k hk => (HSE.out k).2 (Nat.le_trans hb1.size hk)) hn0 rfl (by simp [DS.new]) (by simp [DS.new])
  clear hD1 hb1
  go_wp2_with fail
  refine hop.mono ?_
  clear hop
  rintro e w2 ⟨wc, en0, wh0, gn0, a0, n0, cap0, en1, wh1, gn1, a1_, n1, cap1_, hbc, hs0, hs1, hf2, hif⟩
  obtain ⟨rfl, rfl, rfl, rfl, rfl⟩ := hs0.none
  obtain ⟨rfl, rfl, rfl, rfl, rfl⟩ := hs1.none
  rw [show (DS.new (20 + r)).b0.length = 0 from rfl, show (DS.new (20 + r)).b1.length = 0 from rfl, Dl.begins (20 + r) (by omega), if_pos rfl] at hif
  rw [show Wa.newest false false 0 0 = 0 from rfl, show Wa.genOf false 0 false 0 = 1 from rfl, if_pos rfl] at hif
  obtain ⟨gl, rfl, hL2, hgl, hD2⟩ := hif
  dsimp only at hD2
  have hB2 : Below w.heap.size w w2 := (HB1.out.trans (hbc.mono HB1.out.size)).trans (hf2.below (Nat.le_trans HB1.out.size hbc.size) (fun k hk => (HSE.out k).1 hk.1))
  have HFULL0 : Hid (Full w (20 + r) gl 0 (.slice none 0 0) w2) := ⟨_, [], hL2, hD2, RecT.none _ _ _, by simp [Wa.May], by simp, HG.out.later hB2, hB2, fun k hk => ⟨⟨(HSE.out k).2 (Nat.le_trans hB2.size hk), fun h => by have := hf2.size; omega⟩, by have := heap_lt hL2; omega⟩, fun h => h.2 rfl, fun k hk => (HSE.out k).1 hk.1.1⟩
  have HGLW : Hid (w.heap.size ≤ gl) := by have h1 := HB1.out.size; have h2 := hbc.size; unfold Hid; omega
  clear hL2 hD2 hf2 hbc hs0 hs1 hB2 HB1 hgl
  go_wp2
  go_loopw [9, 29] (fun o i wr => ∃ k : Nat, k ≤ len1 ∧ k ≤ 15 ∧ i = .int .i64 (k : Nat) ∧ Hid (Full w (20 + r) gl k o wr)) (fun o i wr => len1 - (intOf i).toNat)
  case atStart => exact ⟨0, by omega, by omega, rfl, HFULL0⟩
  case round =>
    clear HFULL0
    obtain ⟨k, hk, hk15, rfl, HFULL⟩ := hrel
    by_cases h0 : k < len1
    · obtain ⟨bb, off, rfl, hlm, hcc⟩ := HRW.out.at (by omega)
      unfold maxLen at hlm
      have hBw : Below w.heap.size w wr := by obtain ⟨T, ps, -, -, -, -, -, -, hB, -⟩ := HFULL.out; exact hB
      have hck : wr.cell? ⟨bb, off + k, none⟩ = some (.slice (A1 k) (L1 k) (C1 k)) := cell_later hBw (hcc k h0).1
      have hir := ((hcc k h0).2).later hBw
      clear hcc hBw
      by_cases h15 : k < 15
      · have hrow := hir.row (L1 k) (Nat.le_refl _)
        have hfc := hir.facts
        generalize firsts (Z1 k) (L1 k) = bs at hrow
        clear hir
        obtain ⟨T, ps, hL, hD, hR, hM, hpk, hG, hB, hTn, hTl, hTw⟩ := HFULL.out
        clear HFULL
        have hbw := hB.size
        have hba : Below wr.heap.size wr (wr.alloc (.cells #[.int .u8 7] 5)) := below_new _ _
        have ho7 := Own.new wr wr.heap.size (Nat.le_refl _) #[.int .u8 7] [7] rfl (by decide) (by decide)
        have hct := cut_any (A1 k) (L1 k) (C1 k) bs _ (hrow.later hba) hfc.1 hfc.2.1
        have hr40 := (hrow.later hba).take (min (L1 k) 40) (Nat.min_le_left _ _)
        have h40 : min (L1 k) 40 ≤ 40 := Nat.min_le_right _ _
        generalize min (L1 k) 40 = m at *
        generalize bs.take m = cs at *
        have hcl := hr40.1
        have hcx := hr40.2.1
        have hsza := hba.size
        have HST : Hid (Lg wr gl w.heap.size 0 1 false ∧ Dk wr T w.heap.size (Dl (20 + r) ps 10) ∧ RecT wr w.heap.size T u9 ps ∧ G wr ∧ Below w.heap.size w wr) := ⟨hL, hD, hR, hG, hB⟩
        have hglr := heap_lt hL
        clear hL hD hR hG hB hrow
        go_wp2_with fail
        refine hct.mono ?_
        clear hct
        rintro e wa ⟨rfl, hw⟩
        subst hw
        have hz7 := hfc.2.2
        go_wp2_with (at_builtin; refine wp_append_row rfl _ _ rfl wr.heap.size _ _ rfl ho7 _ _ _ _ rfl hr40 hz7 (by simp; omega) hsza ?_; intro v3 w3 ho3 hb3)
        have hb13 : Below wr.heap.size wr w3 := hba.trans hb3
        obtain ⟨gp, np, cp, rfl, hnp, hgp, hgp3, hncp, hcpm⟩ := ho3.form (by simp)
        have hnl1 : 1 ≤ np := by rw [hnp]; simp
        have hnl2 : np ≤ 41 := by rw [hnp]; simp [hcl]; omega
        clear hnp
        have hrp := ho3.row
        obtain ⟨T1, hT1⟩ : ∃ T1 : Nat → Prop, T1 = fun j => T j ∧ ¬ (wr.heap.size ≤ j ∧ j < w3.heap.size) := ⟨_, rfl⟩
        have HT1 : Hid (∀ j, T1 j ↔ (T j ∧ ¬ (wr.heap.size ≤ j ∧ j < w3.heap.size))) := fun j => by rw [hT1]
        clear hT1
        have hsz3 := hb13.size
        have hD3 : Dk w3 T1 w.heap.size (Dl (20 + r) ps 10) := ((HST.out.2.1.to (T := fun j => T j ∧ j < wr.heap.size) (fun j hj hs => ⟨hs, hj⟩)).later hb13).to (fun j _ hs => (HT1.out j).2 ⟨hs.1, fun hh => by have := hs.2; have := hh.1; omega⟩)
        have hL3 := HST.out.1.later hb13
        have hG3 := HST.out.2.2.2.1.later hb13
        have hR3 : RecT w3 w.heap.size T1 u9 ps := (HST.out.2.2.1.later hb13).weak (fun j hj => ((HT1.out j).1 hj).1)
        have hB3 : Below w.heap.size w w3 := HST.out.2.2.2.2.trans (hb13.mono HST.out.2.2.2.2.size)
        have hT1l : ¬ T1 gl := fun h => hTl ((HT1.out gl).1 h).1
        have hT10 : ¬ T1 0 := fun h => by have := hTw 0 ((HT1.out 0).1 h).1; omega
        have hT1n : ∀ j, w3.heap.size ≤ j → T1 j := fun j hj => (HT1.out j).2 ⟨hTn j (by omega), fun h => by omega⟩
        have hT1w : ∀ j, T1 j → w.heap.size ≤ j := fun j hj => hTw j ((HT1.out j).1 hj).1
        have hoT : ∀ j, (Value.slice (some ⟨gp, 0, none⟩) np cp).ownBlock = some j → ¬ (T1 j ∨ j = gl) := by
          intro j hj hh
          simp only [Value.ownBlock, Option.some.injEq] at hj
          subst hj
          rcases hh with hh | hh
          · exact ((HT1.out gp).1 hh).2 ⟨hgp, hgp3⟩
          · omega
        have hMp : Wa.May (ps ++ [[7] ++ cs]) := by
          intro p hp
          rcases List.mem_append.1 hp with hp | hp
          · exact hM p hp
          · simp only [List.mem_singleton] at hp
            subst hp
            refine ⟨by simp, by simp [hcl]; omega, fun x hx => ?_⟩
            rcases List.mem_append.1 hx with hx | hx
            · simp at hx; omega
            · exact hcx x hx
        have had := add_any gl w.heap.size 0 1 T1 (Dl (20 + r) ps 10) (some ⟨gp, 0, none⟩) np cp ([7] ++ cs) w3 hG3 hL3 hD3 hT1n hT1l hT10 hrp (by simp) (by omega) (by omega)
        have HR3 : Hid (RecT w3 w.heap.size (fun j => T1 j ∨ j = gl) u9 ps) := hR3.noLog hL3
        have HO3 : Hid (Own w3 0 (.slice (some ⟨gp, 0, none⟩) np cp) ([7] ++ cs)) := ho3.mono (Nat.zero_le _)
        have HMP : Hid (Wa.May (ps ++ [[7] ++ cs])) := hMp
        have HX : Hid (G w3 ∧ Below w.heap.size w w3 ∧ Wa.May ps) := ⟨hG3, hB3, hM⟩
        have hL0 := hL3.pos hG3
        have HW : Hid ((∀ j, w3.heap.size ≤ j → T1 j) ∧ ¬ T1 gl ∧ ¬ T1 0 ∧ (∀ j, T1 j → w.heap.size ≤ j) ∧ (∀ j, (Value.slice (some ⟨gp, 0, none⟩) np cp).ownBlock = some j → ¬ (T1 j ∨ j = gl))) := ⟨hT1n, hT1l, hT10, hT1w, hoT⟩
        clear HST ho3 hrp hb3 hb13 hba ho7 hr40 hD3 hL3 hG3 hR3 hB3 hMp hM hT1n hT1w hoT hTn hTw hcx
        by_cases hfit : (Fr.cat (Wa.hd :: ps)).length + (([7] ++ cs).length + 7) ≤ 20 + r
        · rw [Dl.fits _ _ _ _ hfit] at had
          dsimp only at had
          rw [show Wa.died 0 = false from rfl] at had
          clear hfit
          go_wp2_with fail
          refine had.mono ?_
          clear had
          rintro e w4 ⟨rfl, hL4, hD4, hf4⟩
          have hR4 := (HR3.out.frm hf4).weak (U := T1) (fun j hj => .inl hj)
          have hO4 := HO3.out.fr hf4 HW.out.2.2.2.2
          have hB4 : Below w.heap.size w w4 := HX.out.2.1.trans (hf4.below HX.out.2.1.size (fun j hj => by rcases hj with hj | hj; (exact HW.out.2.2.2.1 j hj); (have := HGLW.out; omega)))
          have hG4 : G w4 := HX.out.1.frm hf4 (fun h => by rcases h with h | h; (exact HW.out.2.2.1 h); exact hL0 h.symm)
          have hsz4 := hf4.size
          have hbl : Below w4.heap.size w4 (w4.alloc (.cells #[.slice (some ⟨gp, 0, none⟩) np cp] 22)) := below_new _ _
          obtain ⟨vs, q1, q2, q3, q4⟩ := hR4.later hbl
          have hvl : vs.length ≤ 15 := by omega
          have HQ : Hid ((∀ j, u9.ownBlock = some j → ¬ T1 j) ∧ ∀ (i : Nat) y rr, vs[i]? = some y → ps[i]? = some rr → Own (w4.alloc (.cells #[.slice (some ⟨gp, 0, none⟩) np cp] 22)) 0 y rr ∧ ∀ j, y.ownBlock = some j → ¬ T1 j) := ⟨q2, q4⟩
          have HO4 : Hid (Own (w4.alloc (.cells #[.slice (some ⟨gp, 0, none⟩) np cp] 22)) 0 (.slice (some ⟨gp, 0, none⟩) np cp) ([7] ++ cs)) := hO4.later hbl
          have HD4 : Hid (Dk (w4.alloc (.cells #[.slice (some ⟨gp, 0, none⟩) np cp] 22)) T1 w.heap.size (Dl (20 + r) (ps ++ [[7] ++ cs]) 10)) := hD4.later hbl
          have HL4 : Hid (Lg (w4.alloc (.cells #[.slice (some ⟨gp, 0, none⟩) np cp] 22)) gl w.heap.size 0 1 false) := hL4.later hbl
          have HG4 : Hid (G (w4.alloc (.cells #[.slice (some ⟨gp, 0, none⟩) np cp] 22)) ∧ Below w.heap.size w (w4.alloc (.cells #[.slice (some ⟨gp, 0, none⟩) np cp] 22)) ∧ w4.heap.size ≤ (w4.alloc (.cells #[.slice (some ⟨gp, 0, none⟩) np cp] 22)).heap.size) := ⟨hG4.later hbl, hB4.trans (hbl.mono hB4.size), hbl.size⟩
          clear hR4 hO4 hB4 hG4 hbl q2 q4 hD4 hL4 hf4
          go_wp2_with (at_builtin; refine wp_append_oneG 28 22 _ 24 Tryd.underlying28 Try.info_42 rfl rfl _ _ rfl w.heap.size _ _ rfl q1 _ _ (.slice (some ⟨gp, 0, none⟩) np cp) rfl (by simp) rfl (by omega) (by omega) HG4.out.2.1.size ?_; intro v5 w5 ho5 hb5 hg5)
          have hgr := RecT.grow q1 HQ.out.1 q3 HQ.out.2 HO4.out (fun j hj ht => HW.out.2.2.2.2 j hj (.inl ht)) HD4.out HL4.out ho5 hg5
          have hFin : Full w (20 + r) gl (k + 1) v5 w5 := by
            obtain ⟨T2, z1, z2, z3, z4, z5⟩ := hgr
            have hszs := hb5.size
            have hs4 := HG4.out.2.2
            have hB5 : Below w.heap.size w w5 := HG4.out.2.1.trans hb5
            exact ⟨T2, ps ++ [[7] ++ cs], z3, z2, z1, HMP.out, by simp; omega, HG.out.later hB5, hB5, fun j hj => z5 j hj (HW.out.1 j (by omega)), fun hh => HW.out.2.1 (z4 gl hh), fun j hj => HW.out.2.2.2.1 j (z4 j hj)⟩
          go_roundw
          case rel => exact ⟨k + 1, by omega, by omega, by go_num, hFin⟩
          case measure => simp [intOf]; omega
        · rw [Dl.full _ _ _ _ hfit] at had
          dsimp only at had
          rw [show Wa.died 9 = false from rfl] at had
          clear hfit
          go_wp2_with fail
          refine had.mono ?_
          clear had
          rintro e w4 ⟨rfl, hL4, hD4, hf4⟩
          have hFin : Full w (20 + r) gl (k + 1) u9 w4 := by
            refine ⟨T1, ps, hL4, hD4, (HR3.out.frm hf4).weak (U := T1) (fun j hj => .inl hj), HX.out.2.2, by omega, HX.out.1.frm hf4 (fun h => by rcases h with h | h; (exact HW.out.2.2.1 h); exact hL0 h.symm), HX.out.2.1.trans (hf4.below HX.out.2.1.size (fun j hj => by rcases hj with hj | hj; (exact HW.out.2.2.2.1 j hj); (have := HGLW.out; omega))), fun j hj => HW.out.1 j (by have := hf4.size; omega), HW.out.2.1, HW.out.2.2.2.1⟩
          clear hL4 hD4 hf4
          go_wp2
          go_roundw
          case rel => exact ⟨k + 1, by omega, by omega, by go_num, hFin⟩
          case measure => simp [intOf]; omega
      · obtain rfl : k = 15 := by omega
        obtain ⟨T, ps, hL, hD, hR, hM, hpk, hG, hB, hTn, hTl, hTw⟩ := HFULL.out
        clear HFULL
        have hT0 : ¬ T 0 := fun h => by have := hTw 0 h; omega
        have hgl := heap_lt hL
        have hsy := sync_any gl w.heap.size 0 1 T (Dl (20 + r) ps 10) wr hG hL hD hTl hT0
        rw [Dl.syncs] at hsy
        dsimp only at hsy
        rw [show Wa.died 0 = false from rfl] at hsy
        have HR : Hid (RecT wr w.heap.size (fun k => T k ∨ k = gl) u9 ps) := hR.noLog hL
        have HB : Hid (Below w.heap.size w wr) := hB
        have hbw := hB.size
        have HGr : Hid (G wr) := hG
        have hL0 := hL.pos hG
        clear hL hD hR hG hB
        go_wp2_with fail
        refine hsy.mono ?_
        clear hsy
        rintro e w3 ⟨rfl, hL3, hD3, hf3⟩
        have hlen : (Fr.cat (Wa.hd :: ps)).length ≤ 100000 := by
          have h1 := hD3.good.sum
          have h2 : (Dl (20 + r) ps (Fr.cat (Wa.hd :: ps)).length).b0.length = (Fr.cat (Wa.hd :: ps)).length := rfl
          have h3 : (Dl (20 + r) ps (Fr.cat (Wa.hd :: ps)).length).room = 20 + r := rfl
          omega
        have HR3 : Hid (RecT w3 w.heap.size (fun k => T k ∨ k = gl) u9 ps) := HR.out.frm hf3
        have hB3 : Below w.heap.size w w3 := HB.out.trans (hf3.below hbw (fun k hk => by rcases hk with hk | hk; (exact hTw k hk); (have := HGLW.out; omega)))
        have hG3 : G w3 := HGr.out.frm hf3 (fun h => by rcases h with h | h; (exact hT0 h); exact hL0 h.symm)
        have hsz3 := hf3.size
        have hop := Open_far w.heap.size T (Dl (20 + r) ps (Fr.cat (Wa.hd :: ps)).length) w3 hG3 hD3 (fun k hk => hTn k (by omega)) hT0 rfl hlen (by simp [Dl])
        have HB3 : Hid (Below w.heap.size w w3) := hB3
        have HWC : Hid (_ ∧ _) := Wa.whole_cat hM
        clear hL3 hD3 hf3 hB3 hG3 HR HB HGr
        go_wp2_with fail
        refine hop.mono ?_
        clear hop
        rintro e w4 ⟨wd, en0, wh0, gn0, ga, gn, gc, en1, wh1, gn1, a1_, n1, cap1_, hbd, hs0, hs1, hf4, hif⟩
        obtain ⟨rfl, rfl, rfl, rfl, rfl⟩ := hs1.none
        obtain ⟨kk, hkk, hm⟩ := hs0
        obtain rfl := hkk.same HWC.out.1
        rw [show (Dl (20 + r) ps (Fr.cat (Wa.hd :: ps)).length).b0 = Fr.cat (Wa.hd :: ps) from rfl, HWC.out.2] at hm
        obtain ⟨rfl, rfl, rfl, rfl, hrc⟩ := hm
        rw [show (Dl (20 + r) ps (Fr.cat (Wa.hd :: ps)).length).b0.length = (Fr.cat (Wa.hd :: ps)).length from rfl, show (Dl (20 + r) ps (Fr.cat (Wa.hd :: ps)).length).b1.length = 0 from rfl, Dl.again, if_pos rfl] at hif
        rw [show Wa.newest true false 1 0 = 0 from rfl, show Wa.genOf true 1 false 0 = 1 from rfl, if_pos rfl] at hif
        obtain ⟨gl2, rfl, -, -, -⟩ := hif
        have hrg : Recb w4 w3.heap.size ga ps.length ps := hrc.frm hf4 (fun k h1 h2 h3 => h3.2 ⟨h1, h2⟩)
        have hra : RecT w4 w.heap.size T u9 ps := ((HR3.out.weak (U := T) (fun k hk => .inl hk)).later hbd).frm (hf4.mono fun k _ hk => hk.1)
        obtain ⟨oa, oc, ho9, hro⟩ := hra.recv
        have HB4 : Hid (Below w.heap.size w w4) := (HB3.out.trans (hbd.mono HB3.out.size)).trans (hf4.below (Nat.le_trans HB3.out.size hbd.size) (fun k hk => hTw k hk.1))
        have hsm := same_any ga oa ps.length gc oc ps w4 (by omega) hrg.recv hro
        have HO9 : Hid (u9 = .slice oa ps.length oc) := ho9
        clear hs1 hkk hrc hf4 hbd hrg hra hro HR3
        rw [ho9]
        clear ho9
        go_wp2_with fail
        refine hsm.mono ?_
        clear hsm
        rintro e w5 ⟨rfl, hb5⟩
        have HB5 : Hid (Below w.heap.size w w5) := HB4.out.trans (hb5.mono HB4.out.size)
        go_wp2_with fail
        refine (awake6_any w5 (HG.out.later HB5.out)).mono ?_
        rintro e w6 ⟨rfl, hb6⟩
        go_wp2
        go_ret
        exact ⟨rfl, HB5.out.trans (hb6.mono HB5.out.size)⟩
    · obtain rfl : k = len1 := by omega
      obtain ⟨T, ps, hL, hD, hR, hM, hpk, hG, hB, hTn, hTl, hTw⟩ := HFULL.out
      clear HFULL
      have hT0 : ¬ T 0 := fun h => by have := hTw 0 h; omega
      have hgl := heap_lt hL
      have hsy := sync_any gl w.heap.size 0 1 T (Dl (20 + r) ps 10) wr hG hL hD hTl hT0
      rw [Dl.syncs] at hsy
      dsimp only at hsy
      rw [show Wa.died 0 = false from rfl] at hsy
      have HR : Hid (RecT wr w.heap.size (fun k => T k ∨ k = gl) u9 ps) := hR.noLog hL
      have HB : Hid (Below w.heap.size w wr) := hB
      have hbw := hB.size
      have HGr : Hid (G wr) := hG
      have hL0 := hL.pos hG
      clear hL hD hR hG hB
      go_wp2_with fail
      refine hsy.mono ?_
      clear hsy
      rintro e w3 ⟨rfl, hL3, hD3, hf3⟩
      have hlen : (Fr.cat (Wa.hd :: ps)).length ≤ 100000 := by
        have h1 := hD3.good.sum
        have h2 : (Dl (20 + r) ps (Fr.cat (Wa.hd :: ps)).length).b0.length = (Fr.cat (Wa.hd :: ps)).length := rfl
        have h3 : (Dl (20 + r) ps (Fr.cat (Wa.hd :: ps)).length).room = 20 + r := rfl
        omega
      have HR3 : Hid (RecT w3 w.heap.size (fun k => T k ∨ k = gl) u9 ps) := HR.out.frm hf3
      have hB3 : Below w.heap.size w w3 := HB.out.trans (hf3.below hbw (fun k hk => by rcases hk with hk | hk; (exact hTw k hk); (have := HGLW.out; omega)))
      have hG3 : G w3 := HGr.out.frm hf3 (fun h => by rcases h with h | h; (exact hT0 h); exact hL0 h.symm)
      have hsz3 := hf3.size
      have hop := Open_far w.heap.size T (Dl (20 + r) ps (Fr.cat (Wa.hd :: ps)).length) w3 hG3 hD3 (fun k hk => hTn k (by omega)) hT0 rfl hlen (by simp [Dl])
      have HB3 : Hid (Below w.heap.size w w3) := hB3
      have HWC : Hid (_ ∧ _) := Wa.whole_cat hM
      clear hL3 hD3 hf3 hB3 hG3 HR HB HGr
      go_wp2_with fail
      refine hop.mono ?_
      clear hop
      rintro e w4 ⟨wd, en0, wh0, gn0, ga, gn, gc, en1, wh1, gn1, a1_, n1, cap1_, hbd, hs0, hs1, hf4, hif⟩
      obtain ⟨rfl, rfl, rfl, rfl, rfl⟩ := hs1.none
      obtain ⟨kk, hkk, hm⟩ := hs0
      obtain rfl := hkk.same HWC.out.1
      rw [show (Dl (20 + r) ps (Fr.cat (Wa.hd :: ps)).length).b0 = Fr.cat (Wa.hd :: ps) from rfl, HWC.out.2] at hm
      obtain ⟨rfl, rfl, rfl, rfl, hrc⟩ := hm
      rw [show (Dl (20 + r) ps (Fr.cat (Wa.hd :: ps)).length).b0.length = (Fr.cat (Wa.hd :: ps)).length from rfl, show (Dl (20 + r) ps (Fr.cat (Wa.hd :: ps)).length).b1.length = 0 from rfl, Dl.again, if_pos rfl] at hif
      rw [show Wa.newest true false 1 0 = 0 from rfl, show Wa.genOf true 1 false 0 = 1 from rfl, if_pos rfl] at hif
      obtain ⟨gl2, rfl, -, -, -⟩ := hif
      have hrg : Recb w4 w3.heap.size ga ps.length ps := hrc.frm hf4 (fun k h1 h2 h3 => h3.2 ⟨h1, h2⟩)
      have hra : RecT w4 w.heap.size T u9 ps := ((HR3.out.weak (U := T) (fun k hk => .inl hk)).later hbd).frm (hf4.mono fun k _ hk => hk.1)
      obtain ⟨oa, oc, ho9, hro⟩ := hra.recv
      have HB4 : Hid (Below w.heap.size w w4) := (HB3.out.trans (hbd.mono HB3.out.size)).trans (hf4.below (Nat.le_trans HB3.out.size hbd.size) (fun k hk => hTw k hk.1))
      have hsm := same_any ga oa ps.length gc oc ps w4 (by omega) hrg.recv hro
      have HO9 : Hid (u9 = .slice oa ps.length oc) := ho9
      clear hs1 hkk hrc hf4 hbd hrg hra hro HR3
      rw [ho9]
      clear ho9
      go_wp2_with fail
      refine hsm.mono ?_
      clear hsm
      rintro e w5 ⟨rfl, hb5⟩
      have HB5 : Hid (Below w.heap.size w w5) := HB4.out.trans (hb5.mono HB4.out.size)
      go_wp2_with fail
      refine (awake6_any w5 (HG.out.later HB5.out)).mono ?_
      rintro e w6 ⟨rfl, hb6⟩
      go_wp2
      go_ret
      exact ⟨rfl, HB5.out.trans (hb6.mono HB5.out.size)⟩

/-! From the call to the statement. -/
set_option maxRecDepth 100000 in
theorem lifted (os : Os) (started : os.Started) (H : Type) (enc : TypeId × Value → H) :
    ReturnsInHanded {} Tryd.checked os 4 .any (fun w args => (Rows.walFullSpec.pre enc Tryd.prog Tryd.f4 [] false w args ∧ laidMetH Tryd.prog listed w) ∧ sizedMet enc Tryd.prog Tryd.f4 (OpenSpec.ofChange Rows.walFullSpec) false w args)
      (Rows.walFullSpec.post enc Tryd.prog Tryd.f4 false true false false) := by
  refine returnsInHanded_of_change_and (C := Tryd.checked) (X := fun w _ => laidMetH Tryd.prog listed w) (fun _ _ _ hh h => h.of_heap hh) Fa.own started (by kernel_rfl) Tryd.func4
    (ChangeSpec.witness_shaped (enc := enc) (C := Tryd.checked) (os := os) (X := fun w _ => laidMetH Tryd.prog listed w) false (World.doorLaid Tryd.prog 400 os) #[.int .u8 0, .slice none 0 0] 8 rfl (World.shaped_of_RefB (by kernel_rfl) (by kernel_rfl)) (by kernel_rfl) (by kernel_rfl) (by kernel_rfl) (door_met os _)) ?_
  intro W base args ds gs before hval0 hW _ _ hL _
  have hval : ∀ (j : Nat) t v, Tryd.f4.params[j]? = some t → args[j]? = some v → Value.okWide Tryd.prog W .any base t v := hval0
  have hW' := hW
  obtain ⟨p, q, hA0, hV, rfl, hfz, hnd⟩ := hW
  have hA : DataW.TrodAll enc Tryd.prog W 0 (fun _ => true) true Tryd.f4.params.toList args.toList ds p := hA0
  rw [Tryd.params4] at hA hval
  obtain ⟨v0, vs0, d0, ds0, p0, q0, hargs, rfl, rfl, h0, r0⟩ := trodAll_cons hA
  obtain ⟨v1, vs1, d1, ds1, p1, q1, rfl, rfl, rfl, h1, r1⟩ := trodAll_cons r0
  obtain ⟨rfl, rfl, rfl⟩ := trodAll_nil r1
  obtain rfl : args = #[v0, v1] := by cases args; simp_all
  obtain ⟨rfl, rfl⟩ := trodVars_none hV
  obtain ⟨a0, rfl, rfl, rfl, w0⟩ := open_int Tryd.underlying5 (hval 0 5 v0 rfl rfl) h0
  obtain ⟨a1, len1, cap1, rfl⟩ := okWide_slice Tryd.underlying28 (hval 1 28 v1 rfl rfl)
  have k1 := h1
  have lt1 : ∀ x ∈ p1, x.block < W.heap.size := by obtain ⟨m, hm⟩ := k1; exact DataW.trod_lt m _ _ _ hm
  obtain ⟨A1, L1, C1, Z1, w1⟩ : ∃ A L C Z, Rowss W a1 len1 cap1 A L C Z := by
    obtain ⟨fuel, hf⟩ := h1
    rcases Go.Deep.open_int_rows Tryd.underlying28 Tryd.underlying22 Tryd.underlying5 (by kernel_rfl) (by kernel_rfl) hf with ⟨hcs, _⟩ | ⟨x, l, c, AA, LL, CC, ZZ, hcs, _, hl, hm, _, hrow⟩
    · simp [Value.cells] at hcs
      obtain ⟨rfl, rfl, rfl⟩ := hcs
      exact ⟨_, _, _, _, Rowss.none⟩
    · simp [Value.cells] at hcs
      obtain ⟨rfl, rfl, rfl⟩ := hcs
      exact ⟨AA, LL, CC, ZZ, Rowss.of hl hm hrow⟩
  clear hA0 hval0
  refine (walk a0 a1 len1 cap1 A1 L1 C1 Z1 W (G.of_laid hL) w0 w1).mono fun e W' ⟨he, bel⟩ => ?_
  subst he
  exact ⟨_, rfl, _, _, _, [], _, [], hW', trodAll_mk1 (shut_bool Tryd.underlying4 _), (trodAll_cons_mk (shut_int Tryd.underlying5 w0) (trodAll_cons_mk (Below.trod laidOut (by kernel_rfl) (of_decide_eq_true (by kernel_rfl)) k1 bel lt1) trodAll_mk0)), rfl, bel.frame _, fun h => by cases h⟩

theorem over : Rows.walFullRow.holds Tryd.pinned (OpenSpec.ofChange Rows.walFullSpec) :=
  OpenClaim.holds_of_wide 4 Tryd.f4 rfl rfl rfl rfl rfl rfl rfl ⟨rfl, rfl, rfl, rfl, rfl⟩ rfl rfl rfl rfl rfl (by kernel_rfl) Tryd.func4 (by kernel_rfl)
    (of_decide_eq_true (by kernel_rfl)) (by unfold Func.isWrapper; rw [if_neg (of_decide_eq_false (by kernel_rfl))]; exact ⟨rfl, rfl⟩)
    (fun os started H enc _ => lifted os started H enc)
end Go.Proofs.YtmlpneiadkngaaaDoor.walFull
namespace Go.Proofs.YtmlpneiadkngaaaDoor
open Go
set_option maxRecDepth 100000 in
theorem walFull_holds : Rows.WalFullCardSaid :=
  Claim7.holds_tied_plain_at .later [] [.handle] true (true, "673bfac6c42d79e7ca8d3ec62fd3a7c68cc0ad50ae24e01740fa6ee1ca2771be") true
    walFull.over (fun _ h => by cases h) (by kernel_rfl) (fun _ h => by cases h) walFull_row_tie rfl ⟨rfl, rfl⟩ (by kernel_rfl) rfl
    (fun f fn hf hfn => by
      obtain rfl : f = 4 := Option.some.inj ((show Tryd.prog.funcNamed Rows.walFullRow.func = some 4 by kernel_rfl).symm.trans hf) |>.symm
      obtain rfl : fn = Tryd.f4 := (Option.some.inj (Tryd.func4.symm.trans hfn)).symm
      exact ⟨by kernel_rfl, fun j t ht => by
        rw [Tryd.params4] at ht
        match j, ht with
        | 0, ht =>
          obtain rfl : t = 5 := by simpa using ht.symm
          exact (show Tryd.prog.wantsStandIn 5 = false by kernel_rfl)
        | 1, ht =>
          obtain rfl : t = 28 := by simpa using ht.symm
          exact (show Tryd.prog.wantsStandIn 28 = false by kernel_rfl)
        | j + 2, ht => simp at ht⟩)
    (by kernel_rfl)
#print axioms walFull_holds
end Go.Proofs.YtmlpneiadkngaaaDoor
