/- The document's Remove. -/
import Derived.Test.YtgpjplpfjghcgaaCoP
namespace Go.Proofs.Ytgpjplpfjghcgaa
open Go Go.RowKit
set_option linter.unusedVariables false
set_option linter.unusedSimpArgs false

def flt (x : Int) (l : List Mb) : List Mb := l.filter fun m => m.1 != x
theorem flt_length (x : Int) (l : List Mb) : (flt x l).length ≤ l.length := List.length_filter_le _ _
theorem flt_none {x : Int} {l : List Mb} (h : x ∉ nodes l) : flt x l = l := by
  unfold flt
  rw [List.filter_eq_self]
  intro m hm
  have : m.1 ≠ x := fun e => h (by rw [← e]; exact List.mem_map_of_mem hm)
  simp [this]
theorem flt_at {x : Int} {l : List Mb} {k : Nat} (hd : (nodes l).Nodup) (h : (nodes l)[k]? = some x) : flt x l = l.eraseIdx k := by
  induction l generalizing k with
  | nil => simp [nodes] at h
  | cons m l ih =>
    have hd' : m.1 ∉ nodes l ∧ (nodes l).Nodup := List.nodup_cons.1 hd
    cases k with
    | zero =>
      have hx : m.1 = x := by simpa [nodes] using h
      have h1 : flt x (m :: l) = flt x l := by simp [flt, hx]
      rw [h1, flt_none (by rw [← hx]; exact hd'.1)]
      rfl
    | succ k =>
      have h2 : (nodes l)[k]? = some x := by simpa [nodes] using h
      have hx : m.1 ≠ x := fun e => hd'.1 (by rw [e]; exact List.mem_of_getElem? h2)
      have h1 : flt x (m :: l) = m :: flt x l := by simp [flt, hx]
      rw [h1, ih hd'.2 h2]
      rfl
theorem flt_snoc (x : Int) (l : List Mb) (m : Mb) : flt x (l ++ [m]) = if m.1 = x then flt x l else flt x l ++ [m] := by
  unfold flt
  rw [List.filter_append]
  by_cases h : m.1 = x <;> simp [h]
/-- on the way: what is left of the first k -/
structure Fu (w wr : World) (p2 : Nat) (C : Array Value) (ep : Nat) (sh le x : Int) (l : List Mb) (k : Nat) : Prop where
  bel : Below w.heap.size w wr
  box : wr.heap[w.heap.size]? = some (.cells C 25)
  res : wr.heap[w.heap.size + 1]? = some (.cells #[.int .u64 0, .int .i64 0, .slice none 0 0, .int .i64 0] 25)
  o : ∃ a1 n1 c1, wr.heap[p2]? = some (.cells (rarr ep sh (.slice a1 n1 c1) le) 25) ∧ wr.ownsRow w.heap.size 40 2 (.slice a1 n1 c1) (flt x (l.take k)).length ((flt x (l.take k)).flatMap mcells)
theorem Fu.later {w wr wx : World} {p2 : Nat} {C : Array Value} {ep : Nat} {sh le x : Int} {l : List Mb} {k : Nat} (h : Fu w wr p2 C ep sh le x l k) (hb : Below wr.heap.size wr wx) : Fu w wx p2 C ep sh le x l k := by
  obtain ⟨h1, h2, h3, a1, n1, c1, h4, h5⟩ := h
  exact ⟨h1.trans (hb.mono h1.size), heap_kept h2 hb, heap_kept h3 hb, a1, n1, c1, heap_kept h4 hb, owns_later h5 hb⟩

set_option maxRecDepth 100000 in
set_option maxHeartbeats 4000000 in
theorem rremove_any (v : Value) (c : Cf) (x : Int) (e0 : Nat) (w : World) (h : Rfr w v c) (hle : c.l.length ≤ 900) :
    Calls Try.prog 36 #[v, .int .i64 x, .int .u64 (e0 : Nat)] w fun e w' => (∃ v', e = .returned (.tuple #[v', .int .i64 (removeC ⟨c.ep, c.sh, c.l, c.le⟩ x e0).2]) ∧ Rfr w' v' (removeC ⟨c.ep, c.sh, c.l, c.le⟩ x e0).1) ∧ Below w.heap.size w w' := by
  obtain ⟨r, hr⟩ : ∃ r, r = removeC ⟨c.ep, c.sh, c.l, c.le⟩ x e0 := ⟨_, rfl⟩
  rw [← hr]
  have HR0 : Hid (r = removeC ⟨c.ep, c.sh, c.l, c.le⟩ x e0) := hr
  clear hr
  obtain ⟨a, c1, rfl, hm, hl⟩ := h
  obtain ⟨ep, sh, l, le⟩ := c
  simp only at *
  have hW0 : Below w.heap.size w ((w.alloc (.cells (rarr ep sh (.slice a l.length c1) le) 25)).alloc (.cells #[.int .u64 0, .int .i64 0, .slice none 0 0, .int .i64 0] 25)) := ((Below.refl _ _).alloc (Nat.le_refl _) _).alloc (by simp) _
  have hP0 : ((w.alloc (.cells (rarr ep sh (.slice a l.length c1) le) 25)).alloc (.cells #[.int .u64 0, .int .i64 0, .slice none 0 0, .int .i64 0] 25)).heap[w.heap.size]? = some (.cells (rarr ep sh (.slice a l.length c1) le) 25) := heap_kept (heap_alloc_new _ _) ((Below.refl _ _).alloc (Nat.le_refl _) _)
  have hZ0 : ((w.alloc (.cells (rarr ep sh (.slice a l.length c1) le) 25)).alloc (.cells #[.int .u64 0, .int .i64 0, .slice none 0 0, .int .i64 0] 25)).heap[w.heap.size + 1]? = some (.cells #[.int .u64 0, .int .i64 0, .slice none 0 0, .int .i64 0] 25) := by have := heap_alloc_new (w.alloc (.cells (rarr ep sh (.slice a l.length c1) le) 25)) (.cells #[.int .u64 0, .int .i64 0, .slice none 0 0, .int .i64 0] 25); rw [World.size_alloc] at this; exact this
  have HX : Hid (Rfr w (.agg (rarr ep sh (.slice a l.length c1) le)) ⟨ep, sh, l, le⟩) := ⟨a, c1, rfl, hm, hl⟩
  have HM : Hid (Mrow w a l) := hm
  clear hm
  generalize hW : ((w.alloc (.cells (rarr ep sh (.slice a l.length c1) le) 25)).alloc (.cells #[.int .u64 0, .int .i64 0, .slice none 0 0, .int .i64 0] 25)) = w0 at *
  have HB0 : Hid (Below w.heap.size w w0) := hW0
  have HP0 : Hid (w0.heap[w.heap.size]? = some (.cells (rarr ep sh (.slice a l.length c1) le) 25)) := hP0
  have HZ0 : Hid (w0.heap[w.heap.size + 1]? = some (.cells #[.int .u64 0, .int .i64 0, .slice none 0 0, .int .i64 0] 25)) := hZ0
  clear hW0 hP0 hZ0
  generalize hn : l.length = n at *
  have HLN : Hid (l.length = n) := hn
  clear hn
  obtain ⟨x0, x1, x2, x3⟩ := four_cells HP0.out
  have HPQ : Hid (w.heap.size + 1 < w0.heap.size) := (Array.getElem?_eq_some_iff.1 HZ0.out).1
  have HFU0 : Hid (Fu w (w0.alloc (.cells (rarr e0 sh (.slice none 0 0) le) 25)) w0.heap.size (rarr ep sh (.slice a n c1) le) e0 sh le x l 0) := by
    have hb : Below w0.heap.size w0 (w0.alloc (.cells (rarr e0 sh (.slice none 0 0) le) 25)) := (Below.refl _ _).alloc (Nat.le_refl _) _
    exact ⟨HB0.out.trans (hb.mono HB0.out.size), heap_kept HP0.out hb, heap_kept HZ0.out hb, none, 0, 0, heap_alloc_new _ _, World.ownsRow_nil _ _ _ _⟩
  go_enter Try.func36, Try.ntmps36
  go_upto_region 2 with fail
  generalize (w0.alloc (.cells (rarr e0 sh (.slice none 0 0) le) 25)) = w1 at *
  generalize w0.heap.size = p2 at *
  clear x0 x1 x2 x3 hW
  obtain ⟨x0, x1, x2, x3⟩ := four_cells HFU0.out.box
  go_wp2
  clear x0 x1 x2 x3
  go_loopw [20] (fun i wr => ∃ k : Nat, k ≤ n ∧ i = .int .i64 (k : Nat) ∧ Hid (Fu w wr p2 (rarr ep sh (.slice a n c1) le) e0 sh le x l k)) (fun i _ => n - (intOf i).toNat)
  case atStart => exact ⟨0, Nat.zero_le _, rfl, HFU0⟩
  case round =>
    obtain ⟨k, hk, rfl, HFU⟩ := hrel
    by_cases hlt : k < n
    · obtain ⟨b, off, rfl, hc⟩ := (HM.out.later HFU.out.bel).at (by rw [HLN.out]; omega)
      have hkl : k < l.length := by rw [HLN.out]; exact hlt
      obtain ⟨q0, q1⟩ := hc k _ (List.getElem?_eq_getElem hkl)
      have HT : Hid (l.take (k + 1) = l.take k ++ [l[k]]) := List.take_succ_eq_append_getElem hkl
      have HTL : Hid ((flt x (l.take k)).length ≤ 900) := by have h1 := flt_length x (l.take k); rw [List.length_take] at h1; show _ ≤ _; omega
      clear hc
      generalize l[k] = m at q0 q1 HT
      obtain ⟨mx, mf⟩ := m
      simp only at q0 q1
      have hb1 : Below wr.heap.size wr (wr.alloc (.cells #[.int .i64 mx, .bool mf] 40)) := (Below.refl _ _).alloc (Nat.le_refl _) _
      have hd1 := heap_alloc_new wr (.cells #[.int .i64 mx, .bool mf] 40)
      have HF1 : Hid (Fu w (wr.alloc (.cells #[.int .i64 mx, .bool mf] 40)) p2 (rarr ep sh (.slice (some ⟨b, off, none⟩) n c1) le) e0 sh le x l k) := HFU.out.later hb1
      by_cases hx : mx = x
      · have HF2 : Hid (Fu w (wr.alloc (.cells #[.int .i64 mx, .bool mf] 40)) p2 (rarr ep sh (.slice (some ⟨b, off, none⟩) n c1) le) e0 sh le x l (k + 1)) := by
          obtain ⟨h1, h2, h3, a1, n1, cc1, h4, h5⟩ := HF1.out
          refine ⟨h1, h2, h3, a1, n1, cc1, h4, ?_⟩
          rw [HT.out, flt_snoc, if_pos hx]
          exact h5
        have hxb : (mx != x) = false := by simp [hx]
        clear HF1 HFU hd1 hb1 hx
        go_wp2
        go_roundw
        case rel => exact ⟨k + 1, by omega, by go_num, HF2⟩
        case measure => simp [intOf]; omega
      · have hxb : (mx != x) = true := by simp [hx]
        have HX1 : Hid (mx ≠ x) := hx
        clear hx
        go_upto_region 6 with fail
        generalize (wr.alloc (.cells #[.int .i64 mx, .bool mf] 40)) = w1 at *
        clear q0 q1 hb1 HFU
        obtain ⟨hB, hX, hR, a1, n1, cc1, hO, ho⟩ := HF1.out
        have ha : Below w1.heap.size w1 (w1.alloc (.cells #[.int .i64 mx, .bool mf] 40)) := (Below.refl _ _).alloc (Nat.le_refl _) _
        have hn5 : (w1.alloc (.cells #[.int .i64 mx, .bool mf] 40)).heap[w1.heap.size]? = some (.cells #[.int .i64 mx, .bool mf] 40) := heap_alloc_new _ _
        have HOW : Hid ((w1.alloc (.cells #[.int .i64 mx, .bool mf] 40)).ownsRow w.heap.size 40 2 (.slice a1 n1 cc1) (flt x (l.take k)).length ((flt x (l.take k)).flatMap mcells)) := owns_later ho ha
        have HC2 : Hid (∀ j u, ([(mx, mf)].flatMap mcells)[j]? = some u → (w1.alloc (.cells #[.int .i64 mx, .bool mf] 40)).cell? ((⟨w1.heap.size, 0, none⟩ : Addr).add j) = some u) := news_one mcells (mx, mf) hn5 rfl
        have d0 : w1.cell? ⟨wr.heap.size, 0, none⟩ = some (.int .i64 mx) := cell_of_heap hd1 rfl
        have d1 : w1.cell? ⟨wr.heap.size, 1, none⟩ = some (.bool mf) := cell_of_heap hd1 rfl
        have m2 : w1.cell? ⟨p2, 2, none⟩ = some (.slice a1 n1 cc1) := cell_of_heap hO rfl
        have HB1 : Hid (Below w.heap.size w w1) := hB
        have HX0 : Hid (w1.heap[w.heap.size]? = some (.cells (rarr ep sh (.slice (some ⟨b, off, none⟩) n c1) le) 25)) := hX
        have HR1 : Hid (w1.heap[w.heap.size + 1]? = some (.cells #[.int .u64 0, .int .i64 0, .slice none 0 0, .int .i64 0] 25)) := hR
        have HO1 : Hid (w1.heap[p2]? = some (.cells (rarr e0 sh (.slice a1 n1 cc1) le) 25)) := hO
        clear hB hX hR hO ho hd1 HF1 hn5
        generalize wr.heap.size = pm at *
        go_wp2_with (
          at_builtin; refine wp_append_els mcells 2 16 23 40 _ Try.underlying23 Try.info_40 rfl (by decide) (fun _ => rfl) (by decide) rfl _ _ rfl w.heap.size (.slice a1 n1 cc1) (flt x (l.take k)) rfl HOW.out _ 1 1 [(mx, mf)] rfl rfl HC2.out (mcells_one [(mx, mf)]) (by omega) (by have := HTL.out; omega) (by have := HB1.out.size; simp; omega) ?_
          intro v5 w5 ho5 hg5 _
          obtain ⟨a5, n5, c5, rfl⟩ := owns_slice ho5
          have hf5 : Fr w.heap.size [40] (w1.alloc (.cells #[.int .i64 mx, .bool mf] 40)) w5 := Fr.grown hg5 (fun k hk => ⟨(owns_tag HOW.out k hk).1, 40, by simp, (owns_tag HOW.out k hk).2⟩)
          have HR5 : Hid (w5.heap[w.heap.size + 1]? = some (.cells #[.int .u64 0, .int .i64 0, .slice none 0 0, .int .i64 0] 25)) := hf5.cells (heap_kept HR1.out ha) (by decide)
          have HX5 : Hid (w5.heap[w.heap.size]? = some (.cells (rarr ep sh (.slice (some ⟨b, off, none⟩) n c1) le) 25)) := hf5.cells (heap_kept HX0.out ha) (by decide)
          have HO5 : Hid (w5.heap[p2]? = some (.cells (rarr e0 sh (.slice a1 n1 cc1) le) 25)) := hf5.cells (heap_kept HO1.out ha) (by decide)
          have HB5 : Hid (Below w.heap.size w w5) := HB1.out.trans ((ha.mono HB1.out.size).trans (hf5.below (by have := HB1.out.size; simp; omega)))
          have HW5 : Hid (w5.ownsRow w.heap.size 40 2 (.slice a5 n5 c5) (flt x (l.take (k + 1))).length ((flt x (l.take (k + 1))).flatMap mcells)) := by rw [Hid, HT.out, flt_snoc, if_neg HX1.out]; exact ho5
          clear ho5 hg5 hf5 d0 d1 m2
          have e2 : w5.cell? ⟨p2, 2, none⟩ = some (.slice a1 n1 cc1) := cell_of_heap HO5.out rfl
          have f2 : w5.frozen? ⟨p2, 2, none⟩ = false := frozen_of_row _ _ _ _ _ HO5.out)
        go_roundw
        case rel => exact ⟨k + 1, by omega, by go_num, HB5.out.setCell (p := ⟨p2, 2, none⟩) (by have := HPQ.out; simp; omega) _, (heap_ne (by have := HPQ.out; omega)).trans HX5.out, (heap_ne (by have := HPQ.out; omega)).trans HR5.out, a5, n5, c5, heap_setCell_same _ _ _ _ _ _ HO5.out, owns_same HW5.out (fun k hk ht => heap_ne (tag_ne HO5.out (by decide) ht))⟩
        case measure => simp [intOf]; omega
    · generalize wr = w9 at *
      obtain ⟨hB, hX, hR, a1, n1, c2, hO, ho⟩ := HFU.out
      have hkl : k = l.length := by rw [HLN.out]; omega
      rw [hkl, List.take_length] at ho
      have HB9 : Hid (Below w.heap.size w w9) := hB
      have HP9 : Hid (w9.heap[w.heap.size]? = some (.cells (rarr ep sh (.slice a n c1) le) 25)) := hX
      have HZ9 : Hid (w9.heap[w.heap.size + 1]? = some (.cells #[.int .u64 0, .int .i64 0, .slice none 0 0, .int .i64 0] 25)) := hR
      have HQ9 : Hid (w9.heap[p2]? = some (.cells (rarr e0 sh (.slice a1 n1 c2) le) 25)) := hO
      have HW9 : Hid (w9.ownsRow w.heap.size 40 2 (.slice a1 n1 c2) (flt x l).length ((flt x l).flatMap mcells)) := ho
      clear hB hX hR hO ho HFU hkl
      obtain ⟨x0, x1, x2, x3⟩ := four_cells HP9.out
      have hcall := rmay_any _ _ x e0 _ (HX.out.later HB9.out)
      go_wp2_with fail
      refine hcall.mono ?_
      clear hcall x0 x1 x2 x3
      rintro e w10 ⟨rfl, hb10⟩
      have HP10 : Hid (w10.heap[w.heap.size]? = some (.cells (rarr ep sh (.slice a n c1) le) 25)) := heap_kept HP9.out hb10
      have HZ10 : Hid (w10.heap[w.heap.size + 1]? = some (.cells #[.int .u64 0, .int .i64 0, .slice none 0 0, .int .i64 0] 25)) := heap_kept HZ9.out hb10
      have HB10 : Hid (Below w.heap.size w w10) := HB9.out.trans (hb10.mono HB9.out.size)
      have HQ10 : Hid (w10.heap[p2]? = some (.cells (rarr e0 sh (.slice a1 n1 c2) le) 25)) := heap_kept HQ9.out hb10
      have HW10 : Hid (w10.ownsRow w.heap.size 40 2 (.slice a1 n1 c2) (flt x l).length ((flt x l).flatMap mcells)) := owns_later HW9.out hb10
      clear hb10
      clear HP9 HZ9 HB9 HQ9 HW9
      cases hm : mayB ⟨ep, sh, l, le⟩ x e0 with
      | false =>
        have HR : Hid (r = (zeroC, 1)) := by rw [Hid, HR0.out]; simp [removeC, hm]
        clear hm HR0
        obtain ⟨z0, z1, z2, z3⟩ := four_cells HZ10.out
        obtain ⟨g0, g1, g2, g3⟩ := four_frozen HZ10.out
        have HF : Hid ((put4 w10 (w.heap.size + 1) (.int .u64 0) (.int .i64 0) (.slice none 0 0) (.int .i64 0)).heap[w.heap.size + 1]? = some (.cells #[.int .u64 0, .int .i64 0, .slice none 0 0, .int .i64 0] 25)) := four_put HZ10.out
        have HBF : Hid (Below w.heap.size w (put4 w10 (w.heap.size + 1) (.int .u64 0) (.int .i64 0) (.slice none 0 0) (.int .i64 0))) := below_put4 HB10.out (by omega) _ _ _ _
        unfold put4 at HF HBF
        go_wp2
        generalize ((((w10.setCell ⟨w.heap.size + 1, 0, none⟩ (.int .u64 0)).setCell ⟨w.heap.size + 1, 1, none⟩ (.int .i64 0)).setCell ⟨w.heap.size + 1, 2, none⟩ (.slice none 0 0)).setCell ⟨w.heap.size + 1, 3, none⟩ (.int .i64 0)) = wf at *
        clear z0 z1 z2 z3 g0 g1 g2 g3
        obtain ⟨z0, z1, z2, z3⟩ := four_cells HF.out
        refine bodyPost_ret (v := .tuple #[.agg #[.int .u64 0, .int .i64 0, .slice none 0 0, .int .i64 0], .int .i64 1]) (by simp [results, Try.results36, go_sem, z0, z1, z2, z3]) rfl ?_
        exact ⟨⟨_, by rw [HR.out], by rw [HR.out]; exact ⟨none, 0, rfl, .inl rfl, by simp [zeroC]⟩⟩, HBF.out⟩
      | true =>
        have hml := may_learns hm
        have hmp := may_place hm
        obtain ⟨hrt, hsx, -⟩ := may_right hm
        simp only at hml hmp
        have HM1 : Hid (mayB ⟨ep, sh, l, le⟩ x e0 = true) := hm
        have HML : Hid (learnsB ⟨ep, sh, l, le⟩ x = decide (le = x)) := hml
        have HMP : Hid (placeC ⟨ep, sh, l, le⟩ x = plc (nodes l) x) := hmp
        have HRT : Hid (Rt ⟨ep, sh, l, le⟩ ∧ srv x = true) := ⟨hrt, hsx⟩
        clear hm hml hmp hrt hsx
        obtain ⟨x0, x1, x2, x3⟩ := four_cells HP10.out
        by_cases h1 : le = x
        · have HR : Hid (r = (⟨e0, sh, flt x l, -1⟩, 0)) := by
            have hn : x ∉ nodes l := by
              have h2 := HRT.out.1.le
              have h3 := srv_true.1 HRT.out.2
              unfold leOk at h2
              simp only [h1] at h2
              simp [show ¬ x = -1 by omega] at h2
              exact h2.2
            rw [Hid, HR0.out, removeC, if_neg (by rw [HM1.out]; simp), if_pos (by rw [HML.out, h1]; simp), flt_none hn]
          have h1b : (le == x) = true := by simp [h1]
          clear HR0 HM1 HML HMP h1
          have e3 : w10.cell? ⟨p2, 3, none⟩ = some (.int .i64 le) := cell_of_heap HQ10.out rfl
          have f3 : w10.frozen? ⟨p2, 3, none⟩ = false := frozen_of_row _ _ _ _ _ HQ10.out
          have HQ11 : Hid ((w10.setCell ⟨p2, 3, none⟩ (.int .i64 (-1))).heap[p2]? = some (.cells (rarr e0 sh (.slice a1 n1 c2) (-1)) 25)) := heap_setCell_same _ _ _ _ _ _ HQ10.out
          have HZ11 : Hid ((w10.setCell ⟨p2, 3, none⟩ (.int .i64 (-1))).heap[w.heap.size + 1]? = some (.cells #[.int .u64 0, .int .i64 0, .slice none 0 0, .int .i64 0] 25)) := (heap_ne (by have := HPQ.out; omega)).trans HZ10.out
          have HB11 : Hid (Below w.heap.size w (w10.setCell ⟨p2, 3, none⟩ (.int .i64 (-1)))) := HB10.out.setCell (p := ⟨p2, 3, none⟩) (by have := HPQ.out; simp; omega) _
          have HW11 : Hid ((w10.setCell ⟨p2, 3, none⟩ (.int .i64 (-1))).ownsRow w.heap.size 40 2 (.slice a1 n1 c2) (flt x l).length ((flt x l).flatMap mcells)) := owns_same HW10.out (fun k hk ht => heap_ne (tag_ne HQ10.out (by decide) ht))
          go_upto_region 12 with fail
          generalize (w10.setCell ⟨p2, 3, none⟩ (.int .i64 (-1))) = w11 at *
          clear e3 f3 x0 x1 x2 x3
          obtain ⟨m0, m1, m2, m3⟩ := four_cells HQ11.out
          obtain ⟨z0, z1, z2, z3⟩ := four_cells HZ11.out
          obtain ⟨g0, g1, g2, g3⟩ := four_frozen HZ11.out
          have HF : Hid ((put4 w11 (w.heap.size + 1) (.int .u64 (e0 : Nat)) (.int .i64 sh) (.slice a1 n1 c2) (.int .i64 (-1))).heap[w.heap.size + 1]? = some (.cells (rarr e0 sh (.slice a1 n1 c2) (-1)) 25)) := four_put HZ11.out
          have HBF : Hid (Below w.heap.size w (put4 w11 (w.heap.size + 1) (.int .u64 (e0 : Nat)) (.int .i64 sh) (.slice a1 n1 c2) (.int .i64 (-1)))) := below_put4 HB11.out (by omega) _ _ _ _
          have HMF := (fun (W : World) (hk : ∀ k, k ≠ w.heap.size + 1 → W.heap[k]? = w11.heap[k]?) => (owns_same (w' := W) HW11.out (fun k _ ht => hk k (tag_ne HZ11.out (by decide) ht)))) (put4 w11 (w.heap.size + 1) (.int .u64 (e0 : Nat)) (.int .i64 sh) (.slice a1 n1 c2) (.int .i64 (-1))) (fun k hk => put4_other _ _ _ _ hk)
          unfold put4 at HF HBF HMF
          go_wp2
          generalize ((((w11.setCell ⟨w.heap.size + 1, 0, none⟩ (.int .u64 (e0 : Nat))).setCell ⟨w.heap.size + 1, 1, none⟩ (.int .i64 sh)).setCell ⟨w.heap.size + 1, 2, none⟩ (.slice a1 n1 c2)).setCell ⟨w.heap.size + 1, 3, none⟩ (.int .i64 (-1))) = wf at *
          clear z0 z1 z2 z3 g0 g1 g2 g3 m0 m1 m2 m3
          obtain ⟨z0, z1, z2, z3⟩ := four_cells HF.out
          refine bodyPost_ret (v := .tuple #[.agg (rarr e0 sh (.slice a1 n1 c2) (-1)), .int .i64 0]) (by simp [results, Try.results36, go_sem, z0, z1, z2, z3]) rfl ?_
          exact ⟨⟨_, by rw [HR.out], by rw [HR.out]; exact ⟨a1, c2, by rw [(owns_read HMF).1], (owns_read HMF).2, by show (flt x l).length ≤ 100000; have := flt_length x l; have := HLN.out; omega⟩⟩, HBF.out⟩
        · have h1b : (le == x) = false := by simp [h1]
          have HH1 : Hid (le ≠ x) := h1
          clear h1
          have hcall := find_any _ _ x _ (HX.out.later HB10.out)
          go_wp2_with fail
          refine hcall.mono ?_
          clear hcall x0 x1 x2 x3
          rintro e w11 ⟨rfl, hb11⟩
          have HP11 : Hid (w11.heap[w.heap.size]? = some (.cells (rarr ep sh (.slice a n c1) le) 25)) := heap_kept HP10.out hb11
          have HZ11 : Hid (w11.heap[w.heap.size + 1]? = some (.cells #[.int .u64 0, .int .i64 0, .slice none 0 0, .int .i64 0] 25)) := heap_kept HZ10.out hb11
          have HB11 : Hid (Below w.heap.size w w11) := HB10.out.trans (hb11.mono HB10.out.size)
          have HQ11 : Hid (w11.heap[p2]? = some (.cells (rarr e0 sh (.slice a1 n1 c2) le) 25)) := heap_kept HQ10.out hb11
          have HW11 : Hid (w11.ownsRow w.heap.size 40 2 (.slice a1 n1 c2) (flt x l).length ((flt x l).flatMap mcells)) := owns_later HW10.out hb11
          clear hb11
          simp only
          clear HP10 HZ10 HB10 HQ10 HW10 h1b
          have HPC := place_cases (c := ⟨ep, sh, l, le⟩) x
          rw [HMP.out] at HPC
          rcases HPC with hneg | ⟨k2, hk2, hpk, hat, hbef⟩
          · have HR : Hid (r = (zeroC, 6)) := by rw [Hid, HR0.out, removeC, if_neg (by rw [HM1.out]; simp), if_neg (by rw [HML.out]; simp [HH1.out]), if_pos (by rw [HMP.out]; exact hneg)]
            clear HR0 HM1 HML HMP
            generalize plc (nodes l) x = pk at *
            obtain ⟨z0, z1, z2, z3⟩ := four_cells HZ11.out
            obtain ⟨g0, g1, g2, g3⟩ := four_frozen HZ11.out
            have HF : Hid ((put4 w11 (w.heap.size + 1) (.int .u64 0) (.int .i64 0) (.slice none 0 0) (.int .i64 0)).heap[w.heap.size + 1]? = some (.cells #[.int .u64 0, .int .i64 0, .slice none 0 0, .int .i64 0] 25)) := four_put HZ11.out
            have HBF : Hid (Below w.heap.size w (put4 w11 (w.heap.size + 1) (.int .u64 0) (.int .i64 0) (.slice none 0 0) (.int .i64 0))) := below_put4 HB11.out (by omega) _ _ _ _
            unfold put4 at HF HBF
            go_wp2
            generalize ((((w11.setCell ⟨w.heap.size + 1, 0, none⟩ (.int .u64 0)).setCell ⟨w.heap.size + 1, 1, none⟩ (.int .i64 0)).setCell ⟨w.heap.size + 1, 2, none⟩ (.slice none 0 0)).setCell ⟨w.heap.size + 1, 3, none⟩ (.int .i64 0)) = wf at *
            clear z0 z1 z2 z3 g0 g1 g2 g3
            obtain ⟨z0, z1, z2, z3⟩ := four_cells HF.out
            refine bodyPost_ret (v := .tuple #[.agg #[.int .u64 0, .int .i64 0, .slice none 0 0, .int .i64 0], .int .i64 6]) (by simp [results, Try.results36, go_sem, z0, z1, z2, z3]) rfl ?_
            exact ⟨⟨_, by rw [HR.out], by rw [HR.out]; exact ⟨none, 0, rfl, .inl rfl, by simp [zeroC]⟩⟩, HBF.out⟩
          · simp only at hk2 hat hbef
            have hnd : (nodes l).Nodup := by have h2 := HRT.out.1.ch; simp [chOk, okUpto] at h2; exact h2.1.2
            have HR1 : Hid (r = if hd (flt x l) = false then (zeroC, 10) else (⟨e0, sh, flt x l, le⟩, 0)) := by
              rw [Hid, HR0.out, removeC, if_neg (by rw [HM1.out]; simp), if_neg (by rw [HML.out]; simp [HH1.out]), if_neg (by rw [HMP.out, hpk]; omega), HMP.out, hpk, Int.toNat_natCast, flt_at hnd hat]
            have HFL : Hid ((flt x l).length ≤ 900) := by have := flt_length x l; have := HLN.out; show _ ≤ _; omega
            rw [hpk]
            clear HR0 HM1 HML HMP hpk hat hbef hnd hk2
            obtain ⟨hn1, hmr⟩ := owns_read HW11.out
            have HMR : Hid (Mrow w11 a1 (flt x l)) := hmr
            have HN1 : Hid (n1 = (flt x l).length) := hn1
            clear hn1 hmr
            obtain ⟨m0, m1, m2, m3⟩ := four_cells HQ11.out
            by_cases hn0 : n1 = 0
            · have hl2 : flt x l = [] := List.length_eq_zero_iff.1 (by rw [← HN1.out]; exact hn0)
              have HR : Hid (r = (zeroC, 10)) := by rw [Hid, HR1.out, hl2]; rfl
              clear HR1 hl2
              subst hn0
              obtain ⟨z0, z1, z2, z3⟩ := four_cells HZ11.out
              obtain ⟨g0, g1, g2, g3⟩ := four_frozen HZ11.out
              have HF : Hid ((put4 w11 (w.heap.size + 1) (.int .u64 0) (.int .i64 0) (.slice none 0 0) (.int .i64 0)).heap[w.heap.size + 1]? = some (.cells #[.int .u64 0, .int .i64 0, .slice none 0 0, .int .i64 0] 25)) := four_put HZ11.out
              have HBF : Hid (Below w.heap.size w (put4 w11 (w.heap.size + 1) (.int .u64 0) (.int .i64 0) (.slice none 0 0) (.int .i64 0))) := below_put4 HB11.out (by omega) _ _ _ _
              unfold put4 at HF HBF
              go_wp2
              generalize ((((w11.setCell ⟨w.heap.size + 1, 0, none⟩ (.int .u64 0)).setCell ⟨w.heap.size + 1, 1, none⟩ (.int .i64 0)).setCell ⟨w.heap.size + 1, 2, none⟩ (.slice none 0 0)).setCell ⟨w.heap.size + 1, 3, none⟩ (.int .i64 0)) = wf at *
              clear z0 z1 z2 z3 g0 g1 g2 g3
              obtain ⟨z0, z1, z2, z3⟩ := four_cells HF.out
              refine bodyPost_ret (v := .tuple #[.agg #[.int .u64 0, .int .i64 0, .slice none 0 0, .int .i64 0], .int .i64 10]) (by simp [results, Try.results36, go_sem, z0, z1, z2, z3]) rfl ?_
              exact ⟨⟨_, by rw [HR.out], by rw [HR.out]; exact ⟨none, 0, rfl, .inl rfl, by simp [zeroC]⟩⟩, HBF.out⟩
            · obtain ⟨b9, off9, hae, hc⟩ := HMR.out.at (by rw [← HN1.out]; omega)
              subst hae
              have y0 : w11.cell? ⟨b9, off9 + 1, none⟩ = some (.bool (hd (flt x l))) := by
                have hl0 : 0 < (flt x l).length := by rw [← HN1.out]; omega
                have := (hc 0 _ (List.getElem?_eq_getElem hl0)).2
                rw [Nat.zero_mul, Nat.add_zero] at this
                rw [this]
                generalize flt x l = l2 at hl0
                cases l2 with | nil => simp at hl0 | cons m t => rfl
              have hpos : 0 < n1 := by omega
              clear hc hn0
              generalize hdd : hd (flt x l) = d at y0
              have HD : Hid (hd (flt x l) = d) := hdd
              clear hdd
              cases d with
              | false =>
                have HR : Hid (r = (zeroC, 10)) := by rw [Hid, HR1.out, HD.out]; rfl
                clear HR1
                obtain ⟨z0, z1, z2, z3⟩ := four_cells HZ11.out
                obtain ⟨g0, g1, g2, g3⟩ := four_frozen HZ11.out
                have HF : Hid ((put4 w11 (w.heap.size + 1) (.int .u64 0) (.int .i64 0) (.slice none 0 0) (.int .i64 0)).heap[w.heap.size + 1]? = some (.cells #[.int .u64 0, .int .i64 0, .slice none 0 0, .int .i64 0] 25)) := four_put HZ11.out
                have HBF : Hid (Below w.heap.size w (put4 w11 (w.heap.size + 1) (.int .u64 0) (.int .i64 0) (.slice none 0 0) (.int .i64 0))) := below_put4 HB11.out (by omega) _ _ _ _
                unfold put4 at HF HBF
                go_wp2
                generalize ((((w11.setCell ⟨w.heap.size + 1, 0, none⟩ (.int .u64 0)).setCell ⟨w.heap.size + 1, 1, none⟩ (.int .i64 0)).setCell ⟨w.heap.size + 1, 2, none⟩ (.slice none 0 0)).setCell ⟨w.heap.size + 1, 3, none⟩ (.int .i64 0)) = wf at *
                clear z0 z1 z2 z3 g0 g1 g2 g3
                obtain ⟨z0, z1, z2, z3⟩ := four_cells HF.out
                refine bodyPost_ret (v := .tuple #[.agg #[.int .u64 0, .int .i64 0, .slice none 0 0, .int .i64 0], .int .i64 10]) (by simp [results, Try.results36, go_sem, z0, z1, z2, z3]) rfl ?_
                exact ⟨⟨_, by rw [HR.out], by rw [HR.out]; exact ⟨none, 0, rfl, .inl rfl, by simp [zeroC]⟩⟩, HBF.out⟩
              | true =>
                have HR : Hid (r = (⟨e0, sh, flt x l, le⟩, 0)) := by rw [Hid, HR1.out, HD.out]; rfl
                clear HR1
                obtain ⟨z0, z1, z2, z3⟩ := four_cells HZ11.out
                obtain ⟨g0, g1, g2, g3⟩ := four_frozen HZ11.out
                have HF : Hid ((put4 w11 (w.heap.size + 1) (.int .u64 (e0 : Nat)) (.int .i64 sh) (.slice (some ⟨b9, off9, none⟩) n1 c2) (.int .i64 le)).heap[w.heap.size + 1]? = some (.cells (rarr e0 sh (.slice (some ⟨b9, off9, none⟩) n1 c2) le) 25)) := four_put HZ11.out
                have HBF : Hid (Below w.heap.size w (put4 w11 (w.heap.size + 1) (.int .u64 (e0 : Nat)) (.int .i64 sh) (.slice (some ⟨b9, off9, none⟩) n1 c2) (.int .i64 le))) := below_put4 HB11.out (by omega) _ _ _ _
                have HMF := (fun (W : World) (hk : ∀ k, k ≠ w.heap.size + 1 → W.heap[k]? = w11.heap[k]?) => (owns_same (w' := W) HW11.out (fun k _ ht => hk k (tag_ne HZ11.out (by decide) ht)))) (put4 w11 (w.heap.size + 1) (.int .u64 (e0 : Nat)) (.int .i64 sh) (.slice (some ⟨b9, off9, none⟩) n1 c2) (.int .i64 le)) (fun k hk => put4_other _ _ _ _ hk)
                unfold put4 at HF HBF HMF
                go_wp2
                generalize ((((w11.setCell ⟨w.heap.size + 1, 0, none⟩ (.int .u64 (e0 : Nat))).setCell ⟨w.heap.size + 1, 1, none⟩ (.int .i64 sh)).setCell ⟨w.heap.size + 1, 2, none⟩ (.slice (some ⟨b9, off9, none⟩) n1 c2)).setCell ⟨w.heap.size + 1, 3, none⟩ (.int .i64 le)) = wf at *
                clear z0 z1 z2 z3 g0 g1 g2 g3 m0 m1 m2 m3 y0
                obtain ⟨z0, z1, z2, z3⟩ := four_cells HF.out
                refine bodyPost_ret (v := .tuple #[.agg (rarr e0 sh (.slice (some ⟨b9, off9, none⟩) n1 c2) le), .int .i64 0]) (by simp [results, Try.results36, go_sem, z0, z1, z2, z3]) rfl ?_
                exact ⟨⟨_, by rw [HR.out], by rw [HR.out]; exact ⟨_, c2, by rw [(owns_read HMF).1], (owns_read HMF).2, by show (flt x l).length ≤ 100000; have := HFL.out; omega⟩⟩, HBF.out⟩
end Go.Proofs.Ytgpjplpfjghcgaa
