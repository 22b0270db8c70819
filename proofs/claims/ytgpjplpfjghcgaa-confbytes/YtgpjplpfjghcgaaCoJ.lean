/- The document's Find, Right, May. -/
import Derived.Test.YtgpjplpfjghcgaaCoI
namespace Go.Proofs.Ytgpjplpfjghcgaa
open Go Go.RowKit
set_option linter.unusedVariables false
set_option linter.unusedSimpArgs false

theorem nodes_at {l : List Mb} {k : Nat} {m : Mb} (h : l[k]? = some m) : (nodes l)[k]? = some m.1 := by simp [nodes, h]
theorem Rfr.box {w : World} {v : Value} {c : Cf} (h : Rfr w v c) : ∃ a c1 w0, v = .agg (rarr c.ep c.sh (.slice a c.l.length c1) c.le) ∧
    w.alloc (.cells (rarr c.ep c.sh (.slice a c.l.length c1) c.le) 25) = w0 ∧ Hid (Below w.heap.size w w0) ∧
    Hid (w0.heap[w.heap.size]? = some (.cells (rarr c.ep c.sh (.slice a c.l.length c1) c.le) 25)) ∧
    Hid (Rfr w0 (.agg (rarr c.ep c.sh (.slice a c.l.length c1) c.le)) c) ∧ Hid (Mrow w0 a c.l) ∧ c.l.length ≤ 100000 := by
  have h' := h
  obtain ⟨a, c1, rfl, h1, h3⟩ := h
  have hb : Below w.heap.size w (w.alloc (.cells (rarr c.ep c.sh (.slice a c.l.length c1) c.le) 25)) := (Below.refl _ _).alloc (Nat.le_refl _) _
  exact ⟨a, c1, _, rfl, rfl, hb, heap_alloc_new _ _, h'.later hb, h1.later hb, h3⟩

set_option maxRecDepth 100000 in
set_option maxHeartbeats 2000000 in
theorem find_any (v : Value) (c : Cf) (x : Int) (w : World) (h : Rfr w v c) :
    Calls Try.prog 18 #[v, .int .i64 x] w fun e w' => e = .returned (.int .i64 (plc (nodes c.l) x)) ∧ Below w.heap.size w w' := by
  obtain ⟨a, c1, w0, rfl, hw0, HB0, HN0, HC0, HM0, hl⟩ := h.box
  clear h
  obtain ⟨ep, sh, l, le⟩ := c
  simp only at *
  generalize hn : l.length = n at *
  have HLN : Hid (l.length = n) := hn
  clear hn
  obtain ⟨x0, x1, x2, x3⟩ := four_cells HN0.out
  go_enter Try.func18, Try.ntmps18
  go_wp2
  clear x0 x1 x2 x3 hw0
  go_loopw [10] (fun i wr => ∃ k : Nat, k ≤ n ∧ i = .int .i64 (k : Nat) ∧ Hid (∀ j : Nat, j < k → (nodes l)[j]? ≠ some x) ∧ Hid (Below w.heap.size w wr) ∧ Hid (Mrow wr a l)) (fun i _ => n - (intOf i).toNat)
  case atStart => exact ⟨0, Nat.zero_le _, rfl, fun j hj => absurd hj (Nat.not_lt_zero _), HB0, HM0⟩
  case round =>
    obtain ⟨k, hk, rfl, HN, HB, HM⟩ := hrel
    by_cases hlt : k < n
    · have hkl : k < l.length := by rw [HLN.out]; exact hlt
      obtain ⟨b, off, rfl, hc⟩ := HM.out.at (by omega)
      have hg : l[k]? = some l[k] := List.getElem?_eq_getElem hkl
      obtain ⟨q0, q1⟩ := hc k _ hg
      have HG : Hid ((nodes l)[k]? = some l[k].1) := nodes_at hg
      clear hc hg
      generalize l[k] = m at q0 q1 HG
      obtain ⟨mx, mf⟩ := m
      simp only at q0 q1
      have hb1 : Below wr.heap.size wr (wr.alloc (.cells #[.int .i64 mx, .bool mf] 40)) := (Below.refl _ _).alloc (Nat.le_refl _) _
      have HB1 : Hid (Below w.heap.size w (wr.alloc (.cells #[.int .i64 mx, .bool mf] 40))) := HB.out.trans (hb1.mono HB.out.size)
      have HM1 : Hid (Mrow (wr.alloc (.cells #[.int .i64 mx, .bool mf] 40)) (some ⟨b, off, none⟩) l) := HM.out.later hb1
      clear hb1 hkl
      by_cases hx : mx = x
      · subst hx
        go_wp2
        go_ret
        exact ⟨ret_int (plc_hit k HG.out HN.out).symm, HB1.out⟩
      · go_wp2
        go_roundw
        case rel => exact ⟨k + 1, by omega, by go_num, fun j hj => by
          by_cases e : j = k
          · rw [e, HG.out]; simpa using hx
          · exact HN.out j (by omega), HB1, HM1⟩
        case measure => simp [intOf]; omega
    · go_wp2
      go_ret
      exact ⟨ret_int (plc_none (fun j hj => HN.out j (by rw [nodes_length, HLN.out] at hj; omega))).symm, HB.out⟩

/-- what is known behind the first k members -/
def refOk (c : Cf) (k : Nat) : Prop := okUpto ((nodes c.l).take k) = true ∧ c.le ∉ (nodes c.l).take k
theorem right_of {c : Cf} (h1 : 0 < c.ep) (h2 : 0 ≤ c.sh) (h3 : c.sh < 4) (h4 : 0 < c.l.length) (h5 : hd c.l = true) (h6 : -1 ≤ c.le) (h7 : c.le ≤ 7) (h : refOk c c.l.length) : rightB c = true := by
  obtain ⟨q1, q2⟩ := h
  rw [← nodes_length, List.take_length] at q1 q2
  refine right_mk h1 h2 h3 ?_ h5 ?_
  · have : nodes c.l ≠ [] := by intro e; have := congrArg List.length e; rw [nodes_length] at this; simp at this; rw [this] at h4; simp at h4
    simp [chOk, q1, this]
  · unfold leOk
    by_cases e : c.le = -1
    · simp [e]
    · have hs : srv c.le = true := srv_true.2 ⟨by omega, by omega⟩
      simp [e, q2, hs]
theorem right_no_ch {c : Cf} (h : okUpto (nodes c.l) = false) : rightB c = false := by simp [rightB, chOk, h]
theorem right_no_len {c : Cf} (h : c.l.length = 0 ∨ 8 < c.l.length) : rightB c = false := by
  cases e : rightB c with
  | false => rfl
  | true => have := (right_true e).few; omega
theorem right_no_le {c : Cf} (h : c.le < -1 ∨ 7 < c.le) : rightB c = false := by
  have : leOk c.le (nodes c.l) = false := by
    unfold leOk
    have h1 : c.le ≠ -1 := by omega
    have h2 : srv c.le = false := srv_false.2 (by omega)
    simp [h1, h2]
  simp [rightB, this]
theorem right_no_in {c : Cf} {x : Int} (hs : 0 ≤ x) (h : x ∈ nodes c.l) (e : x = c.le) : rightB c = false := by
  subst e
  have : leOk c.le (nodes c.l) = false := by
    unfold leOk
    have h1 : c.le ≠ -1 := by omega
    simp [h1, h]
  simp [rightB, this]

set_option maxRecDepth 100000 in
set_option maxHeartbeats 4000000 in
theorem rright_any (v : Value) (c : Cf) (w : World) (h : Rfr w v c) :
    Calls Try.prog 11 #[v] w fun e w' => e = .returned (.bool (rightB c)) ∧ Below w.heap.size w w' := by
  obtain ⟨a, c1, w0, rfl, hw0, HB0, HN0, HC0, HM0, hl⟩ := h.box
  clear h
  obtain ⟨r, hr⟩ : ∃ r, r = rightB c := ⟨_, rfl⟩
  rw [← hr]
  have HR : Hid (r = rightB c) := hr
  clear hr
  obtain ⟨x0, x1, x2, x3⟩ := four_cells HN0.out
  by_cases e1 : c.ep = 0
  · have HF : Hid (r = false) := by rw [Hid, HR.out]; simp [rightB, e1]
    clear HR HC0 HM0
    obtain ⟨ep, sh, l, le⟩ := c
    simp only at *
    go_enter Try.func11, Try.ntmps11
    go_wp2
    go_ret
    exact ⟨ret_bool HF.out.symm, by first | exact HB0.out | exact (Below.refl _ _).alloc (Nat.le_refl _) _⟩
  by_cases e2 : c.sh < 0
  · have HF : Hid (r = false) := by rw [Hid, HR.out]; simp [rightB, show ¬ (0 ≤ c.sh) by omega]
    clear HR HC0 HM0
    obtain ⟨ep, sh, l, le⟩ := c
    simp only at *
    go_enter Try.func11, Try.ntmps11
    go_wp2
    go_ret
    exact ⟨ret_bool HF.out.symm, by first | exact HB0.out | exact (Below.refl _ _).alloc (Nat.le_refl _) _⟩
  by_cases e3 : 3 < c.sh
  · have HF : Hid (r = false) := by rw [Hid, HR.out]; simp [rightB, show ¬ (c.sh < 4) by omega]
    clear HR HC0 HM0
    obtain ⟨ep, sh, l, le⟩ := c
    simp only at *
    go_enter Try.func11, Try.ntmps11
    go_wp2
    go_ret
    exact ⟨ret_bool HF.out.symm, by first | exact HB0.out | exact (Below.refl _ _).alloc (Nat.le_refl _) _⟩
  by_cases e4 : c.l.length = 0 ∨ 8 < c.l.length
  · have HF : Hid (r = false) := by rw [Hid, HR.out]; exact right_no_len e4
    clear HR HC0 HM0
    obtain ⟨ep, sh, l, le⟩ := c
    simp only at *
    generalize l.length = n at *
    go_enter Try.func11, Try.ntmps11
    rcases e4 with e4 | e4
    · go_wp2
      go_ret
      exact ⟨ret_bool HF.out.symm, by first | exact HB0.out | exact (Below.refl _ _).alloc (Nat.le_refl _) _⟩
    · go_wp2
      go_ret
      exact ⟨ret_bool HF.out.symm, by first | exact HB0.out | exact (Below.refl _ _).alloc (Nat.le_refl _) _⟩
  obtain ⟨b, off, rfl, hc⟩ := HM0.out.at (by omega)
  have hl0 : 0 < c.l.length := by omega
  have hhd : c.l[0].2 = hd c.l := by
    obtain ⟨ep, sh, l, le⟩ := c
    cases l with
    | nil => simp at hl0
    | cons m t => rfl
  obtain ⟨-, y0⟩ := hc 0 c.l[0] (List.getElem?_eq_getElem hl0)
  rw [hhd] at y0
  simp only [Nat.zero_mul, Nat.add_zero] at y0
  clear hc hhd hl0
  have HH : Hid (hd c.l = true ∨ hd c.l = false) := by cases hd c.l <;> simp [Hid]
  have hn1 : 1 ≤ c.l.length := by omega
  have hn8 : c.l.length ≤ 8 := by omega
  have hep : 0 < c.ep := by omega
  by_cases e5 : hd c.l = false
  · have HF : Hid (r = false) := by rw [Hid, HR.out]; simp [rightB, e5]
    rw [e5] at y0
    clear HR HC0 HM0 HH e5
    obtain ⟨ep, sh, l, le⟩ := c
    simp only at *
    generalize l.length = n at *
    go_enter Try.func11, Try.ntmps11
    go_wp2
    go_ret
    exact ⟨ret_bool HF.out.symm, by first | exact HB0.out | exact (Below.refl _ _).alloc (Nat.le_refl _) _⟩
  have e5' : hd c.l = true := by simpa using e5
  rw [e5'] at y0
  clear HH e5
  by_cases e6 : c.le < -1 ∨ 7 < c.le
  · have HF : Hid (r = false) := by rw [Hid, HR.out]; exact right_no_le e6
    clear HR HC0 HM0 e5'
    obtain ⟨ep, sh, l, le⟩ := c
    simp only at *
    generalize l.length = n at *
    go_enter Try.func11, Try.ntmps11
    rcases e6 with e6 | e6
    · go_wp2
      go_ret
      exact ⟨ret_bool HF.out.symm, by first | exact HB0.out | exact (Below.refl _ _).alloc (Nat.le_refl _) _⟩
    · go_wp2
      go_ret
      exact ⟨ret_bool HF.out.symm, by first | exact HB0.out | exact (Below.refl _ _).alloc (Nat.le_refl _) _⟩
  have HT : Hid (refOk c c.l.length → r = true) := fun h => by
    rw [HR.out]
    exact right_of hep (by omega) (by omega) (by omega) e5' (by omega) (by omega) h
  have HNC : Hid (okUpto (nodes c.l) = false → r = false) := fun h => by rw [HR.out]; exact right_no_ch h
  have HNI : Hid (∀ x : Int, 0 ≤ x → x ∈ nodes c.l → x = c.le → r = false) := fun x h1 h2 h3 => by rw [HR.out]; exact right_no_in h1 h2 h3
  clear HR e5'
  obtain ⟨ep, sh, l, le⟩ := c
  simp only at *
  generalize hn : l.length = n at *
  have HLN : Hid (l.length = n) := hn
  clear hn
  have hle1 : -1 ≤ le := by omega
  have hle2 : le ≤ 7 := by omega
  have hsh0 : 0 ≤ sh := by omega
  have hsh4 : sh ≤ 3 := by omega
  have hepb : ((ep : Int) == 0) = false := by rw [beq_eq_false_iff_ne]; omega
  have t1 : decide (sh < 0) = false := by rw [decide_eq_false_iff_not]; omega
  have t2 : decide (3 < sh) = false := by rw [decide_eq_false_iff_not]; omega
  have t3 : ((n : Int) == 0) = false := by rw [beq_eq_false_iff_ne]; omega
  have t4 : decide (8 < (n : Int)) = false := by rw [decide_eq_false_iff_not]; omega
  have t5 : decide (le < -1) = false := by rw [decide_eq_false_iff_not]; omega
  have t6 : decide (7 < le) = false := by rw [decide_eq_false_iff_not]; omega
  clear e1 e2 e3 e4 e6 hep
  go_enter Try.func11, Try.ntmps11
  go_wp2
  clear x0 x1 x2 x3 y0 hw0 t1 t2 t3 t4 t5 t6 hepb
  go_loopw [51] (fun i wr => ∃ k : Nat, k ≤ n ∧ i = .int .i64 (k : Nat) ∧ Hid (refOk ⟨ep, sh, l, le⟩ k) ∧ Hid (Below w.heap.size w wr) ∧ Hid (Below w0.heap.size w0 wr)) (fun i _ => n - (intOf i).toNat)
  case atStart => exact ⟨0, Nat.zero_le _, rfl, ⟨rfl, by simp⟩, HB0, Below.refl _ _⟩
  case round =>
    obtain ⟨k, hk, rfl, HOK, HB, HBW⟩ := hrel
    by_cases hlt : k < n
    · have hkl : k < l.length := by rw [HLN.out]; exact hlt
      obtain ⟨b', off', e, hc⟩ := (HM0.out.later HBW.out).at (by omega)
      simp only [Option.some.injEq, Addr.mk.injEq] at e
      obtain ⟨rfl, rfl, _⟩ := e
      have hg : l[k]? = some l[k] := List.getElem?_eq_getElem hkl
      obtain ⟨q0, q1⟩ := hc k _ hg
      have HG : Hid ((nodes l)[k]? = some l[k].1) := nodes_at hg
      have HT1 : Hid ((nodes l).take (k + 1) = (nodes l).take k ++ [l[k].1]) := by
        have h1 : k < (nodes l).length := by rw [nodes_length]; exact hkl
        have := List.take_succ_eq_append_getElem h1
        rw [Hid, this]
        simp [nodes]
      clear hc hg
      generalize l[k] = m at q0 q1 HG HT1
      obtain ⟨mx, mf⟩ := m
      simp only at q0 q1
      have hb1 : Below wr.heap.size wr (wr.alloc (.cells #[.int .i64 mx, .bool mf] 40)) := (Below.refl _ _).alloc (Nat.le_refl _) _
      have hd1 := heap_alloc_new wr (.cells #[.int .i64 mx, .bool mf] 40)
      have HD1 : Hid ((wr.alloc (.cells #[.int .i64 mx, .bool mf] 40)).heap[wr.heap.size]? = some (.cells #[.int .i64 mx, .bool mf] 40)) := hd1
      have HB1 : Hid (Below w.heap.size w (wr.alloc (.cells #[.int .i64 mx, .bool mf] 40))) := HB.out.trans (hb1.mono HB.out.size)
      have HBW1 : Hid (Below w0.heap.size w0 (wr.alloc (.cells #[.int .i64 mx, .bool mf] 40))) := HBW.out.trans (hb1.mono HBW.out.size)
      have hfind := find_any _ _ mx _ (HC0.out.later HBW1.out)
      simp only at hfind
      go_upto_region 6 with fail
      generalize wr.alloc (.cells #[.int .i64 mx, .bool mf] 40) = w1 at *
      have d0 : w1.cell? ⟨wr.heap.size, 0, none⟩ = some (.int .i64 mx) := cell_of_heap HD1.out rfl
      have d1 : w1.cell? ⟨wr.heap.size, 1, none⟩ = some (.bool mf) := cell_of_heap HD1.out rfl
      generalize wr.heap.size = pm at *
      clear hb1 hd1 q0 q1 HB HBW hkl
      have HXW : Hid (w1.heap[w.heap.size]? = some (.cells (rarr ep sh (.slice (some ⟨b, off, none⟩) n c1) le) 25)) := heap_kept HN0.out HBW1.out
      obtain ⟨x0, x1, x2, x3⟩ := four_cells HXW.out
      by_cases h0 : mx < 0
      · have HF : Hid (r = false) := HNC.out (okUpto_bad HG.out (.inl (srv_false.2 (by omega))))
        clear hfind
        go_wp2
        go_ret
        exact ⟨ret_bool HF.out.symm, HB1.out⟩
      by_cases h7 : 7 < mx
      · have HF : Hid (r = false) := HNC.out (okUpto_bad HG.out (.inl (srv_false.2 (by omega))))
        clear hfind
        go_wp2
        go_ret
        exact ⟨ret_bool HF.out.symm, HB1.out⟩
      go_wp2_with fail
      refine hfind.mono ?_
      clear hfind x0 x1 x2 x3 d0 d1
      rintro e w2 ⟨rfl, hb2⟩
      have HB2 : Hid (Below w.heap.size w w2) := HB1.out.trans (hb2.mono HB1.out.size)
      have HBW2 : Hid (Below w0.heap.size w0 w2) := HBW1.out.trans (hb2.mono HBW1.out.size)
      have HD2 : Hid (w2.heap[pm]? = some (.cells #[.int .i64 mx, .bool mf] 40)) := heap_kept HD1.out hb2
      have HX2 : Hid (w2.heap[w.heap.size]? = some (.cells (rarr ep sh (.slice (some ⟨b, off, none⟩) n c1) le) 25)) := heap_kept HXW.out hb2
      have d0 : w2.cell? ⟨pm, 0, none⟩ = some (.int .i64 mx) := cell_of_heap HD2.out rfl
      obtain ⟨x0, x1, x2, x3⟩ := four_cells HX2.out
      clear hb2 HD1 HB1 HBW1 HXW
      have hmem : mx ∈ nodes l := List.mem_of_getElem? HG.out
      obtain ⟨j, hj1, hj2, hj3, hj4⟩ := plc_mem hmem
      rw [hj2]
      by_cases hjk : j = k
      · subst hjk
        have HNOT : Hid (mx ∉ (nodes l).take j) := fun h => by
          obtain ⟨i, hi⟩ := List.getElem?_of_mem h
          rw [List.getElem?_take] at hi
          split at hi
          · exact hj4 i (by omega) hi
          · cases hi
        by_cases hlx : mx = le
        · have HF : Hid (r = false) := HNI.out mx (by omega) hmem hlx
          clear hj1 hj2 hj3 hj4 hmem
          go_wp2
          go_ret
          exact ⟨ret_bool HF.out.symm, HB2.out⟩
        · have HOK1 : Hid (refOk ⟨ep, sh, l, le⟩ (j + 1)) := by
            obtain ⟨o1, o2⟩ := HOK.out
            simp only at o1 o2
            refine ⟨?_, ?_⟩
            · show okUpto ((nodes l).take (j + 1)) = true
              rw [HT1.out, okUpto_snoc, o1, srv_true.2 ⟨by omega, by omega⟩, decide_eq_false HNOT.out]
              rfl
            · show le ∉ (nodes l).take (j + 1)
              rw [HT1.out]
              simp only [List.mem_append, List.mem_cons, List.not_mem_nil, or_false, not_or]
              exact ⟨o2, fun e => hlx e.symm⟩
          clear hj1 hj2 hj3 hj4 hmem
          go_wp2
          go_roundw
          case rel => exact ⟨j + 1, by omega, by go_num, HOK1, HB2, HBW2⟩
          case measure => simp [intOf]; omega
      · have HF : Hid (r = false) := HNC.out (okUpto_bad HG.out (.inr (by
          have hjl : j < k := by
            by_cases h : k < j
            · exact absurd HG.out (hj4 k h)
            · omega
          refine List.mem_of_getElem? (i := j) ?_
          rw [List.getElem?_take_of_lt hjl]
          exact hj3)))
        clear hj1 hj2 hj3 hj4 hmem
        go_wp2
        go_ret
        exact ⟨ret_bool HF.out.symm, HB2.out⟩
    · have HF : Hid (r = true) := HT.out (by
        have := HOK.out
        rw [show k = n by omega] at this
        exact this)
      go_wp2
      go_ret
      exact ⟨ret_bool HF.out.symm, HB.out⟩
end Go.Proofs.Ytgpjplpfjghcgaa
