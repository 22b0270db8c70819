/- A configuration's bytes: the program's. -/
import Derived.Test.YtgpjplpfjghcgaaOctB
import Derived.Test.YtgpjplpfjghcgaaCoC
namespace Go.Proofs.Ytgpjplpfjghcgaa
open Go Go.RowKit
set_option linter.unusedVariables false
set_option linter.unusedSimpArgs false

def bit (f : Bool) : Nat := if f then 1 else 0
def membersB (l : List Mb) : List Nat := l.flatMap fun m => Oct.put m.1.toNat ++ Oct.put (bit m.2)
def learnerB (le : Int) : Nat := if le = -1 then 8 else le.toNat
def headB (c : Cf) : List Nat := Oct.put c.ep ++ Oct.put c.sh.toNat ++ Oct.put c.l.length
/-- the bytes of a right configuration -/
def bytesC (c : Cf) : List Nat := headB c ++ membersB c.l ++ Oct.put (learnerB c.le)
theorem membersB_snoc (l : List Mb) (m : Mb) : membersB (l ++ [m]) = membersB l ++ Oct.put m.1.toNat ++ Oct.put (bit m.2) := by
  simp [membersB, List.flatMap_append]

theorem truth_any (f : Bool) (w : World) : Calls Try.prog 59 #[.bool f] w fun e w' => e = .returned (.int .u64 (bit f : Nat)) ∧ w' = w := by
  cases f
  · go_enter Try.func59, Try.ntmps59
    go_wp2
    go_ret
    exact ⟨rfl, rfl⟩
  · go_enter Try.func59, Try.ntmps59
    go_wp2
    go_ret
    exact ⟨rfl, rfl⟩

/-- what is put so far: bytes at their own place, and the box -/
structure Pb (w wr : World) (v : Value) (bs : List Nat) (most : Nat) (C : Array Value) : Prop where
  bel : Below w.heap.size w wr
  box : wr.heap[w.heap.size]? = some (.cells C 29)
  row : ∃ a n, v = .slice a n n ∧ Row wr a n bs ∧ (a = none → n = 0) ∧ n ≤ most
theorem Pb.put {w wr : World} {v : Value} {bs : List Nat} {most m : Nat} {C : Array Value} (h : Pb w wr v bs most C) (hm : most ≤ 100000) (hv : m < 18446744073709551616) :
    Calls Try.prog 58 #[v, .int .u64 (m : Nat)] wr fun e w' => ∃ v', e = .returned v' ∧ Pb w w' v' (bs ++ Oct.put m) (most + 10) C := by
  obtain ⟨h1, h2, a, n, rfl, h3, h4, h5⟩ := h
  refine (put_any a n n m bs wr h3 h4 (by omega) hv).mono ?_
  rintro e w' ⟨g, N, rfl, hr, hN, hg, hb⟩
  exact ⟨_, rfl, h1.trans (hb.mono h1.size), heap_kept h2 hb, _, _, rfl, hr, by simp, by omega⟩

set_option maxRecDepth 100000 in
set_option maxHeartbeats 4000000 in
theorem cbytes_any (v : Value) (c : Cf) (w : World) (h : Cfr w v c) (hr : rightB c = true) (he : c.ep < 18446744073709551616) :
    Calls Try.prog 45 #[v] w fun e w' => (∃ a n, e = .returned (.slice a n n) ∧ Row w' a n (bytesC c) ∧ (a = none → n = 0) ∧ n ≤ 1000) ∧ Below w.heap.size w w' := by
  have R := right_true hr
  have hfew := R.few
  have hall : ∀ m ∈ c.l, 0 ≤ m.1 ∧ m.1 < 8 := by
    intro m hm
    have h1 := R.ch
    simp only [chOk, okUpto, Bool.and_eq_true, List.all_eq_true] at h1
    exact srv_true.1 (h1.1.1 m.1 (List.mem_map_of_mem hm))
  have HALL : Hid (∀ m ∈ c.l, 0 ≤ m.1 ∧ m.1 < 8) := hall
  have hle : c.le = -1 ∨ (0 ≤ c.le ∧ c.le < 8) := by
    have h1 := R.le
    unfold leOk at h1
    by_cases e : c.le = -1
    · exact .inl e
    · simp [e] at h1
      exact .inr (srv_true.1 h1.1)
  have hsh0 := R.sh0
  have hsh4 := R.sh4
  obtain ⟨a, c1, b, c2, w0, rfl, hw0, HB0, HN0, HC0, HV0, HW0, hl⟩ := h.box
  obtain ⟨a', c1', b', c2', e9, hva, hvb, -⟩ := h
  simp only [Value.agg.injEq, Array.mk.injEq, List.cons.injEq, Value.slice.injEq] at e9
  obtain ⟨-, -, ⟨rfl, -, rfl⟩, ⟨rfl, -, rfl⟩, -⟩ := e9
  have HVA : Hid (Vals w a c.l.length (c.l.map mi)) := hva
  have HVB : Hid (Vals w b c.l.length (c.l.map mb)) := hvb
  clear hva hvb R hall hr
  obtain ⟨ep, sh, l, le⟩ := c
  simp only at *
  obtain ⟨sn, rfl⟩ : ∃ sn : Nat, sh = (sn : Int) := ⟨sh.toNat, by omega⟩
  generalize hn : l.length = n at *
  have HLN : Hid (l.length = n) := hn
  clear hn
  have HP0 : Hid (Pb w w0 (.slice none 0 0) [] 0 (carr ep sn (.slice a n c1) (.slice b n c2) le)) := ⟨HB0.out, HN0.out, none, 0, rfl, Row.empty, by simp, by omega⟩
  have hcall := HP0.out.put (m := ep) (by omega) he
  obtain ⟨x0, x1, x2, x3, x4⟩ := five_cells HN0.out
  go_enter Try.func45, Try.ntmps45
  go_wp2_with fail
  refine hcall.mono ?_
  clear hcall x0 x1 x2 x3 x4 hw0
  rintro e w1 ⟨v1, rfl, hp⟩
  have HP1 : Hid (Pb w w1 v1 (Oct.put ep) 10 (carr ep sn (.slice a n c1) (.slice b n c2) le)) := hp
  clear hp
  obtain ⟨x0, x1, x2, x3, x4⟩ := five_cells HP1.out.box
  have hcall := HP1.out.put (m := sn) (by omega) (by omega)
  go_wp2_with fail
  refine hcall.mono ?_
  clear hcall x0 x1 x2 x3 x4
  rintro e w2 ⟨v2, rfl, hp⟩
  have HP2 : Hid (Pb w w2 v2 (Oct.put ep ++ Oct.put sn) 20 (carr ep sn (.slice a n c1) (.slice b n c2) le)) := hp
  clear hp
  obtain ⟨x0, x1, x2, x3, x4⟩ := five_cells HP2.out.box
  have hcall := HP2.out.put (m := n) (by omega) (by omega)
  go_wp2_with fail
  refine hcall.mono ?_
  clear hcall x0 x1 x2 x3 x4
  rintro e w3 ⟨v3, rfl, hp⟩
  have HP3 : Hid (Pb w w3 v3 (headB ⟨ep, sn, l, le⟩) 30 (carr ep sn (.slice a n c1) (.slice b n c2) le)) := by
    have e1 : headB ⟨ep, sn, l, le⟩ = Oct.put ep ++ Oct.put sn ++ Oct.put n := by simp only [headB, Int.toNat_natCast, HLN.out]
    rw [e1]; exact hp
  clear hp HP0 HP1 HP2
  obtain ⟨x0, x1, x2, x3, x4⟩ := five_cells HP3.out.box
  go_wp2
  clear x0 x1 x2 x3 x4
  go_loopw [3, 23] (fun v i wr => ∃ k : Nat, k ≤ n ∧ i = .int .i64 (k : Nat) ∧ Hid (Pb w wr v (headB ⟨ep, sn, l, le⟩ ++ membersB (l.take k)) (30 + 20 * k) (carr ep sn (.slice a n c1) (.slice b n c2) le))) (fun _ i _ => n - (intOf i).toNat)
  case atStart => exact ⟨0, Nat.zero_le _, rfl, by rw [List.take_zero]; show Pb _ _ _ (_ ++ []) _ _; rw [List.append_nil]; exact HP3.out⟩
  case round =>
    obtain ⟨k, hk, rfl, HP⟩ := hrel
    by_cases hlt : k < n
    · have hkl : k < l.length := by rw [HLN.out]; exact hlt
      obtain ⟨ba, oa, rfl, hca⟩ := (HVA.out.later HP.out.bel).at (by omega)
      obtain ⟨bb, ob, rfl, hcb⟩ := (HVB.out.later HP.out.bel).at (by omega)
      have q0 := hca k (.int .i64 l[k].1) (by simp [hkl, mi])
      have r0 := (List.getElem?_map (f := mb) (l := l) (i := k)).trans (by rw [List.getElem?_eq_getElem hkl]; rfl : _ = some (Value.bool l[k].2))
      have HRB : Hid ((l.map mb)[k]? = some (Value.bool l[k].2)) := r0
      have hin := HALL.out l[k] (List.getElem_mem hkl)
      have HT : Hid (l.take (k + 1) = l.take k ++ [l[k]]) := List.take_succ_eq_append_getElem hkl
      clear hca hcb r0
      generalize l[k] = m at q0 HRB hin HT
      obtain ⟨mx, mf⟩ := m
      simp only at q0 hin
      obtain ⟨xn, rfl⟩ : ∃ xn : Nat, mx = (xn : Int) := ⟨mx.toNat, by omega⟩
      have hcall := HP.out.put (m := xn) (by omega) (by omega)
      go_wp2_with fail
      refine hcall.mono ?_
      clear hcall q0
      rintro e w4 ⟨v4, rfl, hp⟩
      have HP4 : Hid (Pb w w4 v4 (headB ⟨ep, sn, l, le⟩ ++ membersB (l.take k) ++ Oct.put xn) (30 + 20 * k + 10) (carr ep sn (.slice (some ⟨ba, oa, none⟩) n c1) (.slice (some ⟨bb, ob, none⟩) n c2) le)) := hp
      clear hp HP
      obtain ⟨x0, x1, x2, x3, x4⟩ := five_cells HP4.out.box
      have q1 : w4.cell? ⟨bb, ob + k, none⟩ = some (.bool mf) := by
        obtain ⟨b9, o9, e9, hc9⟩ := (HVB.out.later HP4.out.bel).at (by omega)
        simp only [Option.some.injEq, Addr.mk.injEq] at e9
        obtain ⟨rfl, rfl, _⟩ := e9
        exact hc9 k _ HRB.out
      have hcall := HP4.out.put (m := bit mf) (by omega) (by cases mf <;> decide)
      have ht := truth_any mf
      generalize hbm : bit mf = bm at *
      have HBM : Hid (bit mf = bm) := hbm
      clear hbm
      go_wp2_with (go_at_call 59; refine (ht _).mono ?_; rintro e w' ⟨rfl, hw'⟩; rw [hw']; clear hw' w')
      refine hcall.mono ?_
      clear hcall x0 x1 x2 x3 x4 q1 ht
      rintro e w5 ⟨v5, rfl, hp⟩
      have HP5 : Hid (Pb w w5 v5 (headB ⟨ep, sn, l, le⟩ ++ membersB (l.take (k + 1))) (30 + 20 * (k + 1)) (carr ep sn (.slice (some ⟨ba, oa, none⟩) n c1) (.slice (some ⟨bb, ob, none⟩) n c2) le)) := by
        have e1 : headB ⟨ep, sn, l, le⟩ ++ membersB (l.take (k + 1)) = headB ⟨ep, sn, l, le⟩ ++ membersB (l.take k) ++ Oct.put xn ++ Oct.put bm := by
          rw [HT.out, membersB_snoc, HBM.out]
          simp only [Int.toNat_natCast, List.append_assoc]
        rw [Hid, e1, show 30 + 20 * (k + 1) = 30 + 20 * k + 10 + 10 by omega]
        exact hp
      clear hp HP4
      go_wp2
      go_roundw
      case rel => exact ⟨k + 1, by omega, by go_num, HP5⟩
      case measure => simp [intOf]; omega
    · have HP4 : Hid (Pb w wr u3 (headB ⟨ep, sn, l, le⟩ ++ membersB l) 190 (carr ep sn (.slice a n c1) (.slice b n c2) le)) := by
        have hh := HP.out
        rw [List.take_of_length_le (by rw [HLN.out]; omega)] at hh
        obtain ⟨h1, h2, a9, n9, e9, h3, h4, h5⟩ := hh
        exact ⟨h1, h2, a9, n9, e9, h3, h4, by omega⟩
      clear HP
      obtain ⟨x0, x1, x2, x3, x4⟩ := five_cells HP4.out.box
      by_cases hm1 : le = -1
      · have hlb : (le == -1) = true := by simp [hm1]
        have HLB : Hid (learnerB le = 8) := by simp [Hid, learnerB, hm1]
        have hcall := HP4.out.put (m := 8) (by omega) (by decide)
        clear hm1 hle
        go_wp2_with fail
        refine hcall.mono ?_
        clear hcall x0 x1 x2 x3 x4
        rintro e w5 ⟨v5, rfl, h1, h2, a9, n9, rfl, h3, h4, h5⟩
        have HF : Hid (Below w.heap.size w w5) := h1
        have HRW : Hid (Row w5 a9 n9 (bytesC ⟨ep, sn, l, le⟩)) := by rw [Hid, bytesC, HLB.out]; exact h3
        clear h1 h2 h3
        go_wp2
        go_ret
        exact ⟨⟨a9, n9, rfl, HRW.out, h4, by omega⟩, HF.out⟩
      · have hlb : (le == -1) = false := by simp [hm1]
        obtain ⟨ln, rfl⟩ : ∃ ln : Nat, le = (ln : Int) := ⟨le.toNat, by omega⟩
        have HLB : Hid (learnerB ln = ln) := by simp [Hid, learnerB, hm1]
        have hcall := HP4.out.put (m := ln) (by omega) (by omega)
        clear hm1
        go_wp2_with fail
        refine hcall.mono ?_
        clear hcall x0 x1 x2 x3 x4
        rintro e w5 ⟨v5, rfl, h1, h2, a9, n9, rfl, h3, h4, h5⟩
        have HF : Hid (Below w.heap.size w w5) := h1
        have HRW : Hid (Row w5 a9 n9 (bytesC ⟨ep, sn, l, ln⟩)) := by rw [Hid, bytesC, HLB.out]; exact h3
        clear h1 h2 h3
        go_wp2
        go_ret
        exact ⟨⟨a9, n9, rfl, HRW.out, h4, by omega⟩, HF.out⟩
end Go.Proofs.Ytgpjplpfjghcgaa
