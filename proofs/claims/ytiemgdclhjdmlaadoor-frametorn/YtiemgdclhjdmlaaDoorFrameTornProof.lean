/-
  FrameTorn: for all rows of bytes and every place the law returns true and leaves its arguments as they were; condition: the variable errors.errorType lies as the text of package errors lays it (a tied card).
-/
import Derived.Test.YtiemgdclhjdmlaaDoorRows
import Derived.Test.YtiemgdclhjdmlaaDoorCards
import Derived.Test.YtiemgdclhjdmlaaDoorTie
import Derived.Test.YtiemgdclhjdmlaaDoorDoor
import Derived.Test.YtiemgdclhjdmlaaDoorFrI
import Derived.WalkKit
import Derived.ProofKit
import Derived.OpenShut
import Derived.ShutString
import Derived.ChangeOld
import Derived.Below
import Derived.SevenTiedAt
import Derived.Deep.Matrix
namespace Go.Proofs.YtiemgdclhjdmlaaDoor.frameTorn
open Go.ChangeShapes Go.WideShapes Go.ChangeAt Go.RowKit
open Go.ChangeMaps (open_string shut_string)
set_option linter.unusedSimpArgs false
set_option linter.unusedVariables false

theorem laidOut : laidOutB Tryd.prog = true := by kernel_rfl

/-- where frames end, as the law keeps it -/
def endsOf (ps : List (List Nat)) : List Value := (List.range ps.length).map fun i => .int .i64 (Fr.upTo ps (i + 1) : Nat)
theorem endsOf_length (ps : List (List Nat)) : (endsOf ps).length = ps.length := by simp [endsOf]
theorem endsOf_snoc (ps : List (List Nat)) (q : List Nat) (M : Nat) (hM : (Fr.cat ps ++ Fr.put q).length = M) : endsOf (ps ++ [q]) = endsOf ps ++ [.int .i64 (M : Nat)] := by
  unfold endsOf
  rw [List.length_append, List.length_singleton, List.range_succ, List.map_append]
  congr 1
  · apply List.map_congr_left
    intro i hi
    rw [Fr.upTo_snoc _ _ _ (by have : i < ps.length := by simpa using hi
                               omega)]
  · have : Fr.upTo (ps ++ [q]) (ps.length + 1) = M := by
      have h := Fr.upTo_all (ps ++ [q])
      rw [List.length_append, List.length_singleton] at h
      rw [h, Fr.cat_snoc, hM]
    simp [this]
theorem endsOf_at (ps : List (List Nat)) (j : Nat) (h : j < ps.length) : (endsOf ps)[j]? = some (.int .i64 (Fr.upTo ps (j + 1) : Nat)) := by
  simp [endsOf, h]
theorem cat_len (ps : List (List Nat)) (h : ∀ p ∈ ps, p.length ≤ 200) : (Fr.cat ps).length ≤ 207 * ps.length := by
  induction ps with
  | nil => simp [Fr.cat]
  | cons p ps ih =>
    have h1 := ih (fun q hq => h q (by simp [hq]))
    have h2 := h p (by simp)
    rw [Fr.cat_cons, List.length_append, Fr.put_length, List.length_cons]
    omega
theorem fine_snoc {ps : List (List Nat)} {q : List Nat} (h : Fr.Fine ps) (h1 : 1 ≤ q.length) (h2 : q.length ≤ 65535) (h3 : ∀ x ∈ q, x < 256) : Fr.Fine (ps ++ [q]) := by
  intro p hp
  rcases List.mem_append.1 hp with hp | hp
  · exact h p hp
  · have : p = q := by simpa using hp
    subst this
    exact ⟨h1, h2, h3⟩

/-! The law returns true, and writes nothing that was there. -/
set_option maxRecDepth 100000 in
set_option maxHeartbeats 4000000 in
theorem walk (a0 : Option Addr) (len0 cap0 : Nat) (A0 : Nat → Option Addr) (L0 C0 : Nat → Nat) (Z0 : Nat → List Int) (a1 : Int) (w : World) (hg : G w) (w0 : Rowss w a0 len0 cap0 A0 L0 C0 Z0) (w1 : (Lit.int .u16 a1).wf = true) :
    Calls Tryd.prog 9 #[.slice a0 len0 cap0, .int .u16 a1] w fun e w' => e = .returned (.bool true) ∧ Below w.heap.size w w' := by
  obtain ⟨at0, rfl⟩ : ∃ t : Nat, a1 = (t : Int) := ⟨a1.toNat, by have := bounds_u16 w1; omega⟩
  have hat : at0 < 65536 := by have := bounds_u16 w1; omega
  have HG : Hid (G w) := hg
  have HW : Hid (Rowss w a0 len0 cap0 A0 L0 C0 Z0) := w0
  have hlm : len0 ≤ maxLen := by
    rcases w0 with ⟨_, h⟩ | ⟨x, _, h1, h2, _⟩
    · omega
    · omega
  unfold maxLen at hlm
  clear hg w0 w1
  go_enter Tryd.func9, Tryd.ntmps9
  go_wp2
  go_loopw [5, 6, 7, 23] (fun av ev wv i wr => ∃ (k : Nat) (ps : List (List Nat)) (vs : List Value), k ≤ len0 ∧ k ≤ 8 ∧ i = .int .i64 k ∧ ps.length ≤ k ∧ vs.length = ps.length ∧ Hid (Fr.Fine ps ∧ ∀ p ∈ ps, p.length ≤ 200) ∧ Hid (ps = [] → av = .slice none 0 0 ∧ ev = .slice none 0 0 ∧ wv = .slice none 0 0) ∧ Hid (Own wr w.heap.size av (Fr.cat ps)) ∧ Hid (OwnV wr w.heap.size 3 ev (endsOf ps)) ∧ Hid (OwnV wr w.heap.size 42 wv vs) ∧ Hid (∀ (i : Nat) x r, vs[i]? = some x → ps[i]? = some r → Rec1 w x r) ∧ Hid (Below w.heap.size w wr)) (fun av ev wv i wr => len0 - (intOf i).toNat)
  case atStart => exact ⟨0, [], [], Nat.zero_le _, Nat.zero_le _, rfl, Nat.le_refl _, rfl, ⟨fun p hp => by simp at hp, fun p hp => by simp at hp⟩, fun _ => ⟨rfl, rfl, rfl⟩, Own.nil _ _, OwnV.nil _ _ _, OwnV.nil _ _ _, fun i x r hx => by simp at hx, Below.refl _ _⟩
  case round =>
    obtain ⟨k, ps, vs, hk, hk8, rfl, hpk, hvl, HF, HN, HA, HE, HV, HVS, hB⟩ := hrel
    by_cases h0 : k < len0
    · obtain ⟨b, off, hax, _, hcell⟩ := HW.out.at (by omega)
      subst hax
      obtain ⟨hc0, hrow0⟩ := hcell k h0
      have hc := cell_later hB.out hc0
      have HRW : Hid (IsRow .u8 w (A0 k) (L0 k) (C0 k) (Z0 k)) := hrow0
      generalize A0 k = pa at hc HRW
      generalize L0 k = pl at hc HRW
      generalize C0 k = pc at hc HRW
      generalize Z0 k = pz at hc HRW
      clear hcell hc0 hrow0
      by_cases h8 : k < 8
      · have HR0 : Hid (Row w pa (min pl 200) (firsts pz (min pl 200))) := HRW.out.row (min pl 200) (Nat.min_le_left _ _)
        have HZ : Hid (pa = none → pc = 0) := HRW.out.facts.2.2
        go_wp2_with fail
        refine (few4_any _ _ _ _ _ (HRW.out.later hB.out)).mono ?_
        rintro e w' ⟨rfl, hw⟩
        subst w'
        have hm200 : min pl 200 ≤ 200 := Nat.min_le_right _ _
        generalize firsts pz (min pl 200) = q at HR0
        generalize min pl 200 = m at HR0 hm200 ⊢
        by_cases hm0 : m = 0
        · subst hm0
          go_wp2_with fail
          refine (put_bad _ 0 _ _ (.inl (by omega))).mono ?_
          rintro e w' ⟨rfl, hw⟩
          subst w'
          go_wp2
          go_roundw
          case rel => exact ⟨k + 1, ps, vs, by omega, by omega, by go_num, by omega, hvl, HF, HN, HA, HE, HV, HVS, hB⟩
          case measure => simp [intOf]; omega
        · have hql := HR0.out.1
          have hqb := HR0.out.2.1
          go_wp2_with fail
          refine (put_ok _ m _ q _ (HR0.out.later hB.out) HZ.out (by omega) (by omega)).mono ?_
          rintro e w1 ⟨v1, rfl, ho1, hb1⟩
          have hpl : (Fr.put q).length = m + 7 := by rw [Fr.put_length]; omega
          obtain ⟨g1, n1, cap1, hv1, hn1, _, _, _, _⟩ := ho1.form (by intro h; rw [h] at hpl; simp at hpl)
          obtain rfl : n1 = m + 7 := by omega
          subst hv1
          have hr1 := ho1.row
          have hsz0 := hB.out.size
          have HB1 : Hid (Below w.heap.size w w1) := hB.out.trans (hb1.mono hsz0)
          have hsz1 : w.heap.size ≤ w1.heap.size := HB1.out.size
          have hA1 := HA.out.later hb1
          have hE1 := HE.out.later hb1
          have hV1 := HV.out.later hb1
          have hcl := cat_len ps HF.out.2
          have hcl2 : (Fr.cat ps).length ≤ 1656 := by omega
          obtain ⟨M, hM⟩ : ∃ M, (Fr.cat ps ++ Fr.put q).length = M := ⟨_, rfl⟩
          have hM0 : 0 < M := by rw [← hM, List.length_append]; omega
          have hM1 : M ≤ 100000 := by rw [← hM, List.length_append]; omega
          have HM : Hid ((Fr.cat ps ++ Fr.put q).length = M) := hM
          have hel : (endsOf ps).length ≤ 8 := by rw [endsOf_length]; omega
          have hvl8 : vs.length ≤ 8 := by omega
          have HSZ : Hid ((Fr.cat ps).length + (m + 7) ≤ 140737488355328) := by unfold Hid; omega
          have HEL : Hid (((endsOf ps).length + 1) * 8 ≤ 140737488355328 ∧ (endsOf ps).length ≤ 140737488355328) := by unfold Hid; omega
          have HVL : Hid ((vs.length + 1) * 24 ≤ 140737488355328 ∧ vs.length ≤ 140737488355328) := by unfold Hid; omega
          clear ho1 hb1 HA HE HV hcl hpl hn1 hM hcl2 hel hvl8
          go_wp2_with (first
            | (at_builtin; refine wp_append_rowG rfl _ _ rfl w.heap.size _ _ rfl hA1 _ _ _ _ _ rfl hr1 HSZ.out hsz1 M HM.out hM0 ?_; intro g2 cap2 w2 hA2 hb2 hg2; have hE2 : OwnV w2 w.heap.size 3 _ (endsOf ps) := kept_tag hE1 hA1.ownV hg2 (by decide); have hV2 : OwnV w2 w.heap.size 42 _ vs := kept_tag hV1 hA1.ownV hg2 (by decide); have HB2 : Hid (Below w.heap.size w w2) := HB1.out.trans hb2; have hsz2 : w.heap.size ≤ w2.heap.size := HB2.out.size; have hE2' := hE2.alloc (.cells #[.int .i64 (M : Nat)] 3); have hA2' := hA2.alloc (.cells #[.int .i64 (M : Nat)] 3); have hV2' := hV2.alloc (.cells #[.int .i64 (M : Nat)] 3))
            | (at_builtin; refine wp_append_oneG 55 3 _ 8 Tryd.underlying55 Try.info3 rfl rfl _ _ rfl w.heap.size _ _ rfl hE2' _ _ (.int .i64 (M : Nat)) rfl (by simp) rfl HEL.out.1 HEL.out.2 (by simp; omega) ?_; intro ev3 w3 hE3 hb3 hg3; have hA3 := hA2'.kept hE2' hg3 (by decide); have hV3 : OwnV w3 w.heap.size 42 _ vs := kept_tag hV2' hE2' hg3 (by decide); have HB3 : Hid (Below w.heap.size w w3) := (HB2.out.alloc hsz2 _).trans hb3; have hsz3 : w.heap.size ≤ w3.heap.size := HB3.out.size; have hE3' := hE3.alloc (.cells #[.slice pa m pc] 42); have hA3' := hA3.alloc (.cells #[.slice pa m pc] 42); have hV3' := hV3.alloc (.cells #[.slice pa m pc] 42))
            | (at_builtin; refine wp_append_oneG 49 42 _ 24 Tryd.underlying49 Try.info42 rfl rfl _ _ rfl w.heap.size _ _ rfl hV3' _ _ (.slice pa m pc) rfl (by simp) rfl HVL.out.1 HVL.out.2 (by simp; omega) ?_; intro wv4 w4 hV4 hb4 hg4))
          have hA4 := hA3'.kept hV3' hg4 (by decide)
          have hE4 : OwnV w4 w.heap.size 3 ev3 (endsOf ps ++ [.int .i64 (M : Nat)]) := kept_tag hE3' hV3' hg4 (by decide)
          have HB4 : Hid (Below w.heap.size w w4) := (HB3.out.alloc hsz3 _).trans hb4
          rw [← endsOf_snoc ps q M HM.out] at hE4
          rw [← Fr.cat_snoc] at hA4
          have HRQ : Hid (Rec1 w (.slice pa m pc) q) := ⟨_, _, _, rfl, HR0.out⟩
          go_roundw
          case rel =>
            refine ⟨k + 1, ps ++ [q], vs ++ [Value.slice pa m pc], by omega, by omega, by go_num, by simp; omega, by simp; omega, ⟨fine_snoc HF.out.1 (by omega) (by omega) hqb, ?_⟩, fun h => by simp at h, hA4, hE4, hV4, ?_, HB4⟩
            · intro p hp
              rcases List.mem_append.1 hp with hp | hp
              · exact HF.out.2 p hp
              · have : p = q := by simpa using hp
                subst this
                omega
            · intro i x r hx hr
              rcases snoc_at hx with ⟨hi, hx1⟩ | ⟨hi, rfl⟩
              · rcases snoc_at hr with ⟨hj, hr1⟩ | ⟨hj, _⟩
                · exact HVS.out i x r hx1 hr1
                · omega
              · rcases snoc_at hr with ⟨hj, _⟩ | ⟨hj, rfl⟩
                · omega
                · exact HRQ.out
          case measure => simp [intOf]; omega
      · obtain rfl : k = 8 := by omega
        clear HRW
        by_cases hps : ps = []
        · obtain ⟨e5, e6, e7⟩ := HN.out hps
          subst e5
          subst e6
          subst e7
          clear HA HE HV HVS HN HF hvl hpk
          have hmod1 : (at0 : Int) % 1 = 0 := by omega
          go_wp2
          refine wp_loop_rounds 1 ?_
          rw [rounds_succ]
          go_wp2_with fail
          refine (all_any none 0 0 [] wr (HG.out.later hB.out) Row.empty (by omega) (by omega) (by simp) (fun _ => rfl)).mono ?_
          rintro e w8 ⟨v8, k8, rfl, hst, hrs, hb8⟩
          obtain rfl : k8 = 0 := hst.same ⟨fun j hj => by omega, by decide⟩
          have e1 : Fr.ends [] 0 = 0 := rfl
          have e2 : Fr.code (([] : List Nat).drop (Fr.ends [] 0)) = 6 := rfl
          have HB8 : Hid (Below w.heap.size w w8) := hB.out.trans (hb8.mono hB.out.size)
          obtain ⟨b1, d1, hv1, _, _, hrv1⟩ := hrs.form
          have e3 : (Fr.recs [] 0).length = 0 := rfl
          rw [e3] at hv1 hrv1
          subst hv1
          have hrv2 : Recv w8 none 0 (Fr.recs [] 0) := ⟨rfl, .inl rfl⟩
          rw [e2, e1]
          clear hst hrs hb8 e1 e2 e3
          go_wp2_with fail
          refine (same_any _ _ 0 _ _ _ w8 (by omega) hrv1 hrv2).mono ?_
          rintro e ws ⟨rfl, hbs⟩
          have HBs : Hid (Below w.heap.size w ws) := HB8.out.trans (hbs.mono HB8.out.size)
          clear hbs hrv1 hrv2
          go_wp2_with fail
          refine (awake4_any _).mono ?_
          rintro e w9 ⟨rfl, hb9⟩
          have HB9 : Hid (Below w.heap.size w w9) := HBs.out.trans (hb9.mono HBs.out.size)
          clear hb9
          go_wp2
          go_ret
          exact ⟨rfl, HB9.out⟩
        · have hP0 : 0 < ps.length := List.length_pos_iff.2 hps
          have hcl := cat_len ps HF.out.2
          have hcpos : 0 < (Fr.cat ps).length := by
            have h1 := Fr.upTo_succ ps 0 hP0
            have h2 := Fr.upTo_mono ps (0 + 1) ps.length hP0 (Nat.le_refl _)
            rw [Fr.upTo_all] at h2
            omega
          obtain ⟨g5, M, cap5, hv5, hM, hg5, _, hMc, hMm⟩ := HA.out.form (by intro h; rw [h] at hcpos; simp at hcpos)
          obtain ⟨g6, cap6, hv6, _, _, h6c, h6m, hcell6⟩ := HE.out.form (by intro h; have := congrArg List.length h; rw [endsOf_length, List.length_nil] at this; omega)
          obtain ⟨g7, cap7, hv7, _, _, h7c, h7m, hcell7⟩ := HV.out.form (by intro h; rw [h, List.length_nil] at hvl; omega)
          rw [endsOf_length] at hv6 h6c
          rw [hvl] at hv7 h7c
          subst hv5
          subst hv6
          subst hv7
          have hr5 := HA.out.row
          obtain ⟨cut, hcut⟩ : ∃ cut, at0 % (M + 1) = cut := ⟨_, rfl⟩
          have hcM : cut ≤ M := by have := Nat.mod_lt at0 (show 0 < M + 1 by omega); omega
          have hci : (at0 : Int) % ((M : Int) + 1) = (cut : Int) := by
            rw [← hcut]
            simp
          obtain ⟨Nn, hN1, hN2, hN3⟩ := Fr.whole_count ps cut
          obtain ⟨t1, t2, t3, t4⟩ := Fr.torn ps HF.out.1 cut Nn (by omega) hN1 hN2 hN3
          have HR5 : Hid (Row wr (some ⟨g5, 0, none⟩) cut ((Fr.cat ps).take cut)) := hr5.take cut hcM
          obtain ⟨P, hP⟩ : ∃ P, ps.length = P := ⟨_, rfl⟩
          rw [hP] at hP0 h6c h7c hN1 hvl hpk hcl ⊢
          have HU : Hid (∀ j, j < P → wr.cell? ⟨g6, j, none⟩ = some (.int .i64 (Fr.upTo ps (j + 1) : Nat)) ∧ ((j < Nn → Fr.upTo ps (j + 1) ≤ cut) ∧ (Nn ≤ j → cut < Fr.upTo ps (j + 1))) ∧ Fr.upTo ps (j + 1) ≤ M) := by
            intro j hj
            refine ⟨hcell6 j _ (endsOf_at ps j (by omega)), ⟨fun h => ?_, fun h => ?_⟩, ?_⟩
            · have := Fr.upTo_mono ps (j + 1) Nn (by omega) (by omega)
              omega
            · have h4 := hN3 (by omega)
              have := Fr.upTo_mono ps (Nn + 1) (j + 1) (by omega) (by omega)
              omega
            · have := Fr.upTo_mono ps (j + 1) ps.length (by omega) (Nat.le_refl _)
              rw [Fr.upTo_all] at this
              omega
          have HT1 : Hid (Fr.ends ((Fr.cat ps).take cut) Nn = Fr.upTo ps Nn) := t1
          have HT2 : Hid (Fr.recs ((Fr.cat ps).take cut) Nn = ps.take Nn) := t2
          have HT3 : Hid (Fr.Stop ((Fr.cat ps).take cut) Nn) := t3
          have HT4 : Hid (Fr.code (((Fr.cat ps).take cut).drop (Fr.upTo ps Nn)) = if Fr.upTo ps Nn = cut then 6 else 4) := t4
          have HC7 : Hid (∀ (j : Nat) u, vs[j]? = some u → wr.cell? ⟨g7, j, none⟩ = some u) := hcell7
          have HPP : Hid (ps.length = P) := hP
          have HMM : Hid (cap5 ≤ maxLen) := hMm
          have hP8 : P ≤ 8 := by omega
          have hM8 : M ≤ 1656 := by omega
          unfold maxLen at hMm h6m h7m
          clear HA HE HV HN t1 t2 t3 t4 hcell6 hcell7 hr5 hcut hP hM hcpos hN2 hN3 hps hcl
          go_wp2_with fail
          go_loop [13, 14, 60] (fun nv lv jv => ∃ j : Nat, j ≤ P ∧ jv = .int .i64 j ∧ nv = .int .i64 (min j Nn : Nat) ∧ lv = .int .i64 (Fr.upTo ps (min j Nn) : Nat)) (fun nv lv jv => P - (intOf jv).toNat)
          case atStart => exact ⟨0, Nat.zero_le _, rfl, by simp, by simp [Fr.upTo_zero]⟩
          case round =>
            obtain ⟨j, hj, rfl, rfl, rfl⟩ := hrel
            by_cases hjP : j < P
            · obtain ⟨hcu, hcond, huM⟩ := HU.out j hjP
              obtain ⟨u, HUU⟩ : ∃ u, Hid (Fr.upTo ps (j + 1) = u) := ⟨Fr.upTo ps (j + 1), rfl⟩
              rw [HUU.out] at hcu hcond huM
              by_cases hjN : j < Nn
              · have hle : (u : Int) ≤ (cut : Int) := by have := hcond.1 hjN; omega
                have e1 : min j Nn = j := Nat.min_eq_left (by omega)
                have e2 : min (j + 1) Nn = j + 1 := Nat.min_eq_left (by omega)
                have E2 : Hid (min (j + 1) Nn = j + 1) := e2
                rw [e1]
                obtain ⟨l, HLL⟩ : ∃ l, Hid (Fr.upTo ps j = l) := ⟨Fr.upTo ps j, rfl⟩
                rw [HLL.out]
                clear e1 e2 hcond
                go_wp2
                go_round
                case rel => exact ⟨j + 1, by omega, by go_num, by rw [E2.out]; go_num, by rw [E2.out, HUU.out]⟩
                case measure => simp [intOf]; omega
              · have hle : ¬ (u : Int) ≤ (cut : Int) := by have := hcond.2 (by omega); omega
                have e1 : min j Nn = Nn := Nat.min_eq_right (by omega)
                have E2 : Hid (min (j + 1) Nn = Nn) := Nat.min_eq_right (by omega)
                rw [e1]
                obtain ⟨l, HLL⟩ : ∃ l, Hid (Fr.upTo ps Nn = l) := ⟨Fr.upTo ps Nn, rfl⟩
                rw [HLL.out]
                clear e1 hcond
                go_wp2
                go_round
                case rel => exact ⟨j + 1, by omega, by go_num, by rw [E2.out], by rw [E2.out, HLL.out]⟩
                case measure => simp [intOf]; omega
            · have e1 : min j Nn = Nn := Nat.min_eq_right (by omega)
              rw [e1]
              obtain ⟨l, HLL⟩ : ∃ l, Hid (Fr.upTo ps Nn = l) := ⟨Fr.upTo ps Nn, rfl⟩
              rw [HLL.out]
              clear e1
              go_wp2_with fail
              refine (all_any (some ⟨g5, 0, none⟩) cut cap5 _ wr (HG.out.later hB.out) HR5.out (by omega) (by omega) HMM.out (by simp)).mono ?_
              rintro e w8 ⟨v8, k8, rfl, hst, hrs, hb8⟩
              obtain rfl : k8 = Nn := hst.same HT3.out
              rw [HT1.out, HT4.out, HLL.out]
              have HB8 : Hid (Below w.heap.size w w8) := hB.out.trans (hb8.mono hB.out.size)
              rw [HT2.out] at hrs
              obtain ⟨b1, d1, hv1, _, _, hrv1⟩ := hrs.form
              have hlt : (ps.take k8).length = k8 := by rw [List.length_take, HPP.out]; omega
              rw [hlt] at hv1 hrv1
              subst hv1
              have hrv2 : Recv w8 (some ⟨g7, 0, none⟩) k8 (ps.take k8) := by
                refine ⟨hlt, .inr ⟨g7, 0, rfl, fun i r hr => ?_⟩⟩
                have hi : i < k8 := by have := (List.getElem?_eq_some_iff.1 hr).1; omega
                rw [List.getElem?_take_of_lt hi] at hr
                have hx : vs[i]? = some (vs[i]'(by omega)) := List.getElem?_eq_getElem (by omega)
                refine ⟨_, by rw [Nat.zero_add]; exact cell_later hb8 (HC7.out i _ hx), (HVS.out i _ r hx hr).later HB8.out⟩
              clear hst hrs hb8 hlt
              by_cases hlc : l = cut
              · rw [if_pos hlc]
                subst hlc
                go_wp2_with fail
                refine (same_any _ _ k8 _ _ _ w8 (by omega) hrv1 hrv2).mono ?_
                rintro e ws ⟨rfl, hbs⟩
                have HBs : Hid (Below w.heap.size w ws) := HB8.out.trans (hbs.mono HB8.out.size)
                clear hbs hrv1 hrv2
                go_wp2_with fail
                refine (awake4_any _).mono ?_
                rintro e w9 ⟨rfl, hb9⟩
                have HB9 : Hid (Below w.heap.size w w9) := HBs.out.trans (hb9.mono HBs.out.size)
                clear hb9
                go_wp2
                go_ret
                exact ⟨rfl, HB9.out⟩
              · rw [if_neg hlc]
                have hlci : ((l : Int) == (cut : Int)) = false := by simp; omega
                go_wp2_with fail
                refine (same_any _ _ k8 _ _ _ w8 (by omega) hrv1 hrv2).mono ?_
                rintro e ws ⟨rfl, hbs⟩
                have HBs : Hid (Below w.heap.size w ws) := HB8.out.trans (hbs.mono HB8.out.size)
                clear hbs hrv1 hrv2
                go_wp2_with fail
                refine (awake4_any _).mono ?_
                rintro e w9 ⟨rfl, hb9⟩
                have HB9 : Hid (Below w.heap.size w w9) := HBs.out.trans (hb9.mono HBs.out.size)
                clear hb9
                go_wp2
                go_ret
                exact ⟨rfl, HB9.out⟩
    · by_cases hps : ps = []
      · obtain ⟨e5, e6, e7⟩ := HN.out hps
        subst e5
        subst e6
        subst e7
        clear HA HE HV HVS HN HF hvl hpk
        have hmod1 : (at0 : Int) % 1 = 0 := by omega
        go_wp2
        refine wp_loop_rounds 1 ?_
        rw [rounds_succ]
        go_wp2_with fail
        refine (all_any none 0 0 [] wr (HG.out.later hB.out) Row.empty (by omega) (by omega) (by simp) (fun _ => rfl)).mono ?_
        rintro e w8 ⟨v8, k8, rfl, hst, hrs, hb8⟩
        obtain rfl : k8 = 0 := hst.same ⟨fun j hj => by omega, by decide⟩
        have e1 : Fr.ends [] 0 = 0 := rfl
        have e2 : Fr.code (([] : List Nat).drop (Fr.ends [] 0)) = 6 := rfl
        have HB8 : Hid (Below w.heap.size w w8) := hB.out.trans (hb8.mono hB.out.size)
        obtain ⟨b1, d1, hv1, _, _, hrv1⟩ := hrs.form
        have e3 : (Fr.recs [] 0).length = 0 := rfl
        rw [e3] at hv1 hrv1
        subst hv1
        have hrv2 : Recv w8 none 0 (Fr.recs [] 0) := ⟨rfl, .inl rfl⟩
        rw [e2, e1]
        clear hst hrs hb8 e1 e2 e3
        go_wp2_with fail
        refine (same_any _ _ 0 _ _ _ w8 (by omega) hrv1 hrv2).mono ?_
        rintro e ws ⟨rfl, hbs⟩
        have HBs : Hid (Below w.heap.size w ws) := HB8.out.trans (hbs.mono HB8.out.size)
        clear hbs hrv1 hrv2
        go_wp2_with fail
        refine (awake4_any _).mono ?_
        rintro e w9 ⟨rfl, hb9⟩
        have HB9 : Hid (Below w.heap.size w w9) := HBs.out.trans (hb9.mono HBs.out.size)
        clear hb9
        go_wp2
        go_ret
        exact ⟨rfl, HB9.out⟩
      · have hP0 : 0 < ps.length := List.length_pos_iff.2 hps
        have hcl := cat_len ps HF.out.2
        have hcpos : 0 < (Fr.cat ps).length := by
          have h1 := Fr.upTo_succ ps 0 hP0
          have h2 := Fr.upTo_mono ps (0 + 1) ps.length hP0 (Nat.le_refl _)
          rw [Fr.upTo_all] at h2
          omega
        obtain ⟨g5, M, cap5, hv5, hM, hg5, _, hMc, hMm⟩ := HA.out.form (by intro h; rw [h] at hcpos; simp at hcpos)
        obtain ⟨g6, cap6, hv6, _, _, h6c, h6m, hcell6⟩ := HE.out.form (by intro h; have := congrArg List.length h; rw [endsOf_length, List.length_nil] at this; omega)
        obtain ⟨g7, cap7, hv7, _, _, h7c, h7m, hcell7⟩ := HV.out.form (by intro h; rw [h, List.length_nil] at hvl; omega)
        rw [endsOf_length] at hv6 h6c
        rw [hvl] at hv7 h7c
        subst hv5
        subst hv6
        subst hv7
        have hr5 := HA.out.row
        obtain ⟨cut, hcut⟩ : ∃ cut, at0 % (M + 1) = cut := ⟨_, rfl⟩
        have hcM : cut ≤ M := by have := Nat.mod_lt at0 (show 0 < M + 1 by omega); omega
        have hci : (at0 : Int) % ((M : Int) + 1) = (cut : Int) := by
          rw [← hcut]
          simp
        obtain ⟨Nn, hN1, hN2, hN3⟩ := Fr.whole_count ps cut
        obtain ⟨t1, t2, t3, t4⟩ := Fr.torn ps HF.out.1 cut Nn (by omega) hN1 hN2 hN3
        have HR5 : Hid (Row wr (some ⟨g5, 0, none⟩) cut ((Fr.cat ps).take cut)) := hr5.take cut hcM
        obtain ⟨P, hP⟩ : ∃ P, ps.length = P := ⟨_, rfl⟩
        rw [hP] at hP0 h6c h7c hN1 hvl hpk hcl ⊢
        have HU : Hid (∀ j, j < P → wr.cell? ⟨g6, j, none⟩ = some (.int .i64 (Fr.upTo ps (j + 1) : Nat)) ∧ ((j < Nn → Fr.upTo ps (j + 1) ≤ cut) ∧ (Nn ≤ j → cut < Fr.upTo ps (j + 1))) ∧ Fr.upTo ps (j + 1) ≤ M) := by
          intro j hj
          refine ⟨hcell6 j _ (endsOf_at ps j (by omega)), ⟨fun h => ?_, fun h => ?_⟩, ?_⟩
          · have := Fr.upTo_mono ps (j + 1) Nn (by omega) (by omega)
            omega
          · have h4 := hN3 (by omega)
            have := Fr.upTo_mono ps (Nn + 1) (j + 1) (by omega) (by omega)
            omega
          · have := Fr.upTo_mono ps (j + 1) ps.length (by omega) (Nat.le_refl _)
            rw [Fr.upTo_all] at this
            omega
        have HT1 : Hid (Fr.ends ((Fr.cat ps).take cut) Nn = Fr.upTo ps Nn) := t1
        have HT2 : Hid (Fr.recs ((Fr.cat ps).take cut) Nn = ps.take Nn) := t2
        have HT3 : Hid (Fr.Stop ((Fr.cat ps).take cut) Nn) := t3
        have HT4 : Hid (Fr.code (((Fr.cat ps).take cut).drop (Fr.upTo ps Nn)) = if Fr.upTo ps Nn = cut then 6 else 4) := t4
        have HC7 : Hid (∀ (j : Nat) u, vs[j]? = some u → wr.cell? ⟨g7, j, none⟩ = some u) := hcell7
        have HPP : Hid (ps.length = P) := hP
        have HMM : Hid (cap5 ≤ maxLen) := hMm
        have hP8 : P ≤ 8 := by omega
        have hM8 : M ≤ 1656 := by omega
        unfold maxLen at hMm h6m h7m
        clear HA HE HV HN t1 t2 t3 t4 hcell6 hcell7 hr5 hcut hP hM hcpos hN2 hN3 hps hcl
        go_wp2_with fail
        go_loop [13, 14, 60] (fun nv lv jv => ∃ j : Nat, j ≤ P ∧ jv = .int .i64 j ∧ nv = .int .i64 (min j Nn : Nat) ∧ lv = .int .i64 (Fr.upTo ps (min j Nn) : Nat)) (fun nv lv jv => P - (intOf jv).toNat)
        case atStart => exact ⟨0, Nat.zero_le _, rfl, by simp, by simp [Fr.upTo_zero]⟩
        case round =>
          obtain ⟨j, hj, rfl, rfl, rfl⟩ := hrel
          by_cases hjP : j < P
          · obtain ⟨hcu, hcond, huM⟩ := HU.out j hjP
            obtain ⟨u, HUU⟩ : ∃ u, Hid (Fr.upTo ps (j + 1) = u) := ⟨Fr.upTo ps (j + 1), rfl⟩
            rw [HUU.out] at hcu hcond huM
            by_cases hjN : j < Nn
            · have hle : (u : Int) ≤ (cut : Int) := by have := hcond.1 hjN; omega
              have e1 : min j Nn = j := Nat.min_eq_left (by omega)
              have e2 : min (j + 1) Nn = j + 1 := Nat.min_eq_left (by omega)
              have E2 : Hid (min (j + 1) Nn = j + 1) := e2
              rw [e1]
              obtain ⟨l, HLL⟩ : ∃ l, Hid (Fr.upTo ps j = l) := ⟨Fr.upTo ps j, rfl⟩
              rw [HLL.out]
              clear e1 e2 hcond
              go_wp2
              go_round
              case rel => exact ⟨j + 1, by omega, by go_num, by rw [E2.out]; go_num, by rw [E2.out, HUU.out]⟩
              case measure => simp [intOf]; omega
            · have hle : ¬ (u : Int) ≤ (cut : Int) := by have := hcond.2 (by omega); omega
              have e1 : min j Nn = Nn := Nat.min_eq_right (by omega)
              have E2 : Hid (min (j + 1) Nn = Nn) := Nat.min_eq_right (by omega)
              rw [e1]
              obtain ⟨l, HLL⟩ : ∃ l, Hid (Fr.upTo ps Nn = l) := ⟨Fr.upTo ps Nn, rfl⟩
              rw [HLL.out]
              clear e1 hcond
              go_wp2
              go_round
              case rel => exact ⟨j + 1, by omega, by go_num, by rw [E2.out], by rw [E2.out, HLL.out]⟩
              case measure => simp [intOf]; omega
          · have e1 : min j Nn = Nn := Nat.min_eq_right (by omega)
            rw [e1]
            obtain ⟨l, HLL⟩ : ∃ l, Hid (Fr.upTo ps Nn = l) := ⟨Fr.upTo ps Nn, rfl⟩
            rw [HLL.out]
            clear e1
            go_wp2_with fail
            refine (all_any (some ⟨g5, 0, none⟩) cut cap5 _ wr (HG.out.later hB.out) HR5.out (by omega) (by omega) HMM.out (by simp)).mono ?_
            rintro e w8 ⟨v8, k8, rfl, hst, hrs, hb8⟩
            obtain rfl : k8 = Nn := hst.same HT3.out
            rw [HT1.out, HT4.out, HLL.out]
            have HB8 : Hid (Below w.heap.size w w8) := hB.out.trans (hb8.mono hB.out.size)
            rw [HT2.out] at hrs
            obtain ⟨b1, d1, hv1, _, _, hrv1⟩ := hrs.form
            have hlt : (ps.take k8).length = k8 := by rw [List.length_take, HPP.out]; omega
            rw [hlt] at hv1 hrv1
            subst hv1
            have hrv2 : Recv w8 (some ⟨g7, 0, none⟩) k8 (ps.take k8) := by
              refine ⟨hlt, .inr ⟨g7, 0, rfl, fun i r hr => ?_⟩⟩
              have hi : i < k8 := by have := (List.getElem?_eq_some_iff.1 hr).1; omega
              rw [List.getElem?_take_of_lt hi] at hr
              have hx : vs[i]? = some (vs[i]'(by omega)) := List.getElem?_eq_getElem (by omega)
              refine ⟨_, by rw [Nat.zero_add]; exact cell_later hb8 (HC7.out i _ hx), (HVS.out i _ r hx hr).later HB8.out⟩
            clear hst hrs hb8 hlt
            by_cases hlc : l = cut
            · rw [if_pos hlc]
              subst hlc
              go_wp2_with fail
              refine (same_any _ _ k8 _ _ _ w8 (by omega) hrv1 hrv2).mono ?_
              rintro e ws ⟨rfl, hbs⟩
              have HBs : Hid (Below w.heap.size w ws) := HB8.out.trans (hbs.mono HB8.out.size)
              clear hbs hrv1 hrv2
              go_wp2_with fail
              refine (awake4_any _).mono ?_
              rintro e w9 ⟨rfl, hb9⟩
              have HB9 : Hid (Below w.heap.size w w9) := HBs.out.trans (hb9.mono HBs.out.size)
              clear hb9
              go_wp2
              go_ret
              exact ⟨rfl, HB9.out⟩
            · rw [if_neg hlc]
              have hlci : ((l : Int) == (cut : Int)) = false := by simp; omega
              go_wp2_with fail
              refine (same_any _ _ k8 _ _ _ w8 (by omega) hrv1 hrv2).mono ?_
              rintro e ws ⟨rfl, hbs⟩
              have HBs : Hid (Below w.heap.size w ws) := HB8.out.trans (hbs.mono HB8.out.size)
              clear hbs hrv1 hrv2
              go_wp2_with fail
              refine (awake4_any _).mono ?_
              rintro e w9 ⟨rfl, hb9⟩
              have HB9 : Hid (Below w.heap.size w w9) := HBs.out.trans (hb9.mono HBs.out.size)
              clear hb9
              go_wp2
              go_ret
              exact ⟨rfl, HB9.out⟩

/-! From the call to the statement. -/
set_option maxRecDepth 100000 in
theorem lifted (os : Os) (started : os.Started) (H : Type) (enc : TypeId × Value → H) :
    ReturnsInHanded {} Tryd.checked os 9 .any (fun w args => (Rows.frameTornSpec.pre enc Tryd.prog Tryd.f9 [] false w args ∧ laidMetH Tryd.prog listed w) ∧ sizedMet enc Tryd.prog Tryd.f9 (OpenSpec.ofChange Rows.frameTornSpec) false w args)
      (Rows.frameTornSpec.post enc Tryd.prog Tryd.f9 false true false false) := by
  refine returnsInHanded_of_change_and (C := Tryd.checked) (X := fun w _ => laidMetH Tryd.prog listed w) (fun _ _ _ hh h => h.of_heap hh) Fa.own started (by kernel_rfl) Tryd.func9
    (ChangeSpec.witness_shaped (enc := enc) (C := Tryd.checked) (os := os) (X := fun w _ => laidMetH Tryd.prog listed w) false (World.doorLaid Tryd.prog 400 os) #[.slice none 0 0, .int .u16 0] 8 rfl (World.shaped_of_RefB (by kernel_rfl) (by kernel_rfl)) (by kernel_rfl) (by kernel_rfl) (by kernel_rfl) (door_met os _)) ?_
  intro W base args ds gs before hval0 hW _ _ hL _
  have hval : ∀ (j : Nat) t v, Tryd.f9.params[j]? = some t → args[j]? = some v → Value.okWide Tryd.prog W .any base t v := hval0
  have hW' := hW
  obtain ⟨p, q, hA0, hV, rfl, hfz, hnd⟩ := hW
  have hA : DataW.TrodAll enc Tryd.prog W 0 (fun _ => true) true Tryd.f9.params.toList args.toList ds p := hA0
  rw [Tryd.params9] at hA hval
  obtain ⟨v0, vs0, d0, ds0, p0, q0, hargs, rfl, rfl, h0, r0⟩ := trodAll_cons hA
  obtain ⟨v1, vs1, d1, ds1, p1, q1, rfl, rfl, rfl, h1, r1⟩ := trodAll_cons r0
  obtain ⟨rfl, rfl, rfl⟩ := trodAll_nil r1
  obtain rfl : args = #[v0, v1] := by cases args; simp_all
  obtain ⟨rfl, rfl⟩ := trodVars_none hV
  obtain ⟨a0, len0, cap0, rfl⟩ := okWide_slice Tryd.underlying49 (hval 0 49 v0 rfl rfl)
  have k0 := h0
  have lt0 : ∀ x ∈ p0, x.block < W.heap.size := by obtain ⟨m, hm⟩ := k0; exact DataW.trod_lt m _ _ _ hm
  obtain ⟨A0, L0, C0, Z0, w0⟩ : ∃ A L C Z, Rowss W a0 len0 cap0 A L C Z := by
    obtain ⟨fuel, hf⟩ := h0
    rcases Go.Deep.open_int_rows Tryd.underlying49 Tryd.underlying42 Tryd.underlying5 (by kernel_rfl) (by kernel_rfl) hf with ⟨hcs, _⟩ | ⟨x, l, c, AA, LL, CC, ZZ, hcs, _, hl, hm, _, hrow⟩
    · simp [Value.cells] at hcs
      obtain ⟨rfl, rfl, rfl⟩ := hcs
      exact ⟨_, _, _, _, Rowss.none⟩
    · simp [Value.cells] at hcs
      obtain ⟨rfl, rfl, rfl⟩ := hcs
      exact ⟨AA, LL, CC, ZZ, Rowss.of hl hm hrow⟩
  obtain ⟨a1, rfl, rfl, rfl, w1⟩ := open_int Tryd.underlying54 (hval 1 54 v1 rfl rfl) h1
  clear hA0 hval0
  refine (walk a0 len0 cap0 A0 L0 C0 Z0 a1 W (G.of_laid hL) w0 w1).mono fun e W' ⟨he, bel⟩ => ?_
  subst he
  exact ⟨_, rfl, _, _, _, [], _, [], hW', trodAll_mk1 (shut_bool Tryd.underlying4 _), (trodAll_cons_mk (Below.trod laidOut (by kernel_rfl) (of_decide_eq_true (by kernel_rfl)) k0 bel lt0) (trodAll_cons_mk (shut_int Tryd.underlying54 w1) trodAll_mk0)), rfl, bel.frame _, fun h => by cases h⟩

theorem over : Rows.frameTornRow.holds Tryd.pinned (OpenSpec.ofChange Rows.frameTornSpec) :=
  OpenClaim.holds_of_wide 9 Tryd.f9 rfl rfl rfl rfl rfl rfl rfl ⟨rfl, rfl, rfl, rfl, rfl⟩ rfl rfl rfl rfl rfl (by kernel_rfl) Tryd.func9 (by kernel_rfl)
    (of_decide_eq_true (by kernel_rfl)) (by unfold Func.isWrapper; rw [if_neg (of_decide_eq_false (by kernel_rfl))]; exact ⟨rfl, rfl⟩)
    (fun os started H enc _ => lifted os started H enc)
end Go.Proofs.YtiemgdclhjdmlaaDoor.frameTorn
namespace Go.Proofs.YtiemgdclhjdmlaaDoor
open Go
set_option maxRecDepth 100000 in
theorem frameTorn_holds : Rows.FrameTornCardSaid :=
  Claim7.holds_tied_plain_at .later [] [.handle] true (true, "6bb8420f3958038eed9cfcd5f39460c47147c0b66445aadddf18d967e68e5430") true
    frameTorn.over (fun _ h => by cases h) (by kernel_rfl) (fun _ h => by cases h) frameTorn_row_tie rfl ⟨rfl, rfl⟩ (by kernel_rfl) rfl
    (fun f fn hf hfn => by
      obtain rfl : f = 9 := Option.some.inj ((show Tryd.prog.funcNamed Rows.frameTornRow.func = some 9 by kernel_rfl).symm.trans hf) |>.symm
      obtain rfl : fn = Tryd.f9 := (Option.some.inj (Tryd.func9.symm.trans hfn)).symm
      exact ⟨by kernel_rfl, fun j t ht => by
        rw [Tryd.params9] at ht
        match j, ht with
        | 0, ht =>
          obtain rfl : t = 49 := by simpa using ht.symm
          exact (show Tryd.prog.wantsStandIn 49 = false by kernel_rfl)
        | 1, ht =>
          obtain rfl : t = 54 := by simpa using ht.symm
          exact (show Tryd.prog.wantsStandIn 54 = false by kernel_rfl)
        | j + 2, ht => simp at ht⟩)
    (by kernel_rfl)
#print axioms frameTorn_holds
end Go.Proofs.YtiemgdclhjdmlaaDoor
