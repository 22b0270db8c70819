/- The document's table: a contract of Free. -/
import Derived.Test.YtbhohedkgeokgaaLkJ
namespace Go.Proofs.Ytbhohedkgeokgaa
open Go Go.RowKit
set_option linter.unusedVariables false
set_option linter.unusedSimpArgs false

theorem two_set0 {w : World} {g : Nat} {a b x : Value} {t : TypeId} (h : w.heap[g]? = some (.cells #[a, b] t (0, 0))) : (w.setCell ⟨g, 0, none⟩ x).heap[g]? = some (.cells #[x, b] t (0, 0)) := heap_setCell_same _ _ _ _ _ _ h
theorem two_set1 {w : World} {g : Nat} {a b x : Value} {t : TypeId} (h : w.heap[g]? = some (.cells #[a, b] t (0, 0))) : (w.setCell ⟨g, 1, none⟩ x).heap[g]? = some (.cells #[a, x] t (0, 0)) := heap_setCell_same _ _ _ _ _ _ h
/-- other rows, another last number: memory -/
theorem Rt.put {w : World} {base g : Nat} {L' : List Rw} {last a : Int} {v0 v : Value} (hlo : base ≤ g) (h0 : w.heap[g]? = some (.cells #[v0, .int .i64 last] 28 (0, 0))) (hv : w.ownsRow base 47 6 v L'.length (L'.flatMap Rw.cells)) :
    Rt ((w.setCell ⟨g, 0, none⟩ v).setCell ⟨g, 1, none⟩ (.int .i64 a)) base g L' a ∧ Fr base [28, 47] w ((w.setCell ⟨g, 0, none⟩ v).setCell ⟨g, 1, none⟩ (.int .i64 a)) := by
  have f2 : Fr base [28] w (w.setCell ⟨g, 0, none⟩ v) := Fr.setCell v hlo (t := 28) (by simp) (tagOf_heap h0)
  have f3 : Fr base [28] (w.setCell ⟨g, 0, none⟩ v) ((w.setCell ⟨g, 0, none⟩ v).setCell ⟨g, 1, none⟩ (.int .i64 a)) := Fr.setCell _ hlo (t := 28) (by simp) (tagOf_heap (two_set0 h0))
  exact ⟨⟨hlo, v, two_set1 (two_set0 h0), (f2.trans f3).owns hv (by simp)⟩, (f2.trans f3).sub (by simp)⟩
theorem owns_mono {w : World} {base b2 : Nat} {e : TypeId} {size : Nat} {v : Value} {n : Nat} {xs : List Value} (h : w.ownsRow base e size v n xs) (hb : b2 ≤ base) : w.ownsRow b2 e size v n xs := by
  obtain ⟨h1, h2⟩ := h
  refine ⟨h1, ?_⟩
  rcases h2 with h2 | ⟨g, cap, cur, hv, hg, hx⟩
  · exact .inl h2
  · exact .inr ⟨g, cap, cur, hv, by omega, hx⟩

/-- what the document's Free has done -/
structure RFreed (w' : World) (base g : Nat) (L : List Rw) (last : Int) (id : Id) (a : Int) : Prop where
  yes : freeR L last id a = 0 → Rt w' base g (L.map (endR id a)) a
  no : freeR L last id a ≠ 0 → Rt w' base g L last

theorem take_map {α β : Type} (f : α → β) {l : List α} {k : Nat} {x : α} (h : l[k]? = some x) : (l.take (k + 1)).map f = (l.take k).map f ++ [f x] := by
  have hk := (List.getElem?_eq_some_iff.1 h).1
  rw [List.take_succ_eq_append_getElem hk, List.map_append]
  rw [List.getElem?_eq_getElem hk] at h
  simp only [Option.some.injEq] at h
  rw [h]
  rfl

set_option maxRecDepth 100000 in
set_option maxHeartbeats 4000000 in
theorem rfree_any (base g : Nat) (L : List Rw) (last : Int) (id : Id) (a : Int) (w : World) (h : Rt w base g L last) (hlen : L.length ≤ 100000) (hbase : base ≤ w.heap.size) :
    Calls Try.prog 21 #[.pointer (some ⟨g, 0, none⟩), idv id, .int .i64 a] w fun e w' => e = .returned (.int .i64 (freeR L last id a)) ∧ RFreed w' base g L last id a ∧ Fr base [28, 47] w w' := by
  have hb0 : Below w.heap.size w (w.alloc (.cells #[.int .i64 id.1, .int .u64 id.2] 31)) := (Below.refl _ _).alloc (Nat.le_refl _) _
  have hn := heap_alloc_new w (.cells #[.int .i64 id.1, .int .u64 id.2] 31)
  have HN : Hid ((w.alloc (.cells #[.int .i64 id.1, .int .u64 id.2] 31)).heap[w.heap.size]? = some (.cells #[.int .i64 id.1, .int .u64 id.2] 31)) := hn
  have HT : Hid (Rt (w.alloc (.cells #[.int .i64 id.1, .int .u64 id.2] 31)) base g L last) := h.later hb0
  have HB : Hid (Below w.heap.size w (w.alloc (.cells #[.int .i64 id.1, .int .u64 id.2] 31))) := hb0
  have p0 : (w.alloc (.cells #[.int .i64 id.1, .int .u64 id.2] 31)).cell? ⟨w.heap.size, 0, none⟩ = some (.int .i64 id.1) := cell_of_heap hn rfl
  have p1 : (w.alloc (.cells #[.int .i64 id.1, .int .u64 id.2] 31)).cell? ⟨w.heap.size, 1, none⟩ = some (.int .u64 id.2) := cell_of_heap hn rfl
  obtain ⟨_, _, -, -, -, c1⟩ := HT.out.cells
  clear h hb0 hn
  by_cases hal : a ≤ last
  · have HE : Hid (freeR L last id a = 1) := by rw [Hid, freeR, if_pos hal]
    go_enter Try.func21, Try.ntmps21
    go_wp2
    go_ret
    exact ⟨by rw [HE.out]; rfl, ⟨fun e => (by rw [HE.out] at e; cases e), fun _ => HT.out⟩, Fr.of HB.out⟩
  · have hx := rholds_any base g L last id _ HT.out hlen
    go_enter Try.func21, Try.ntmps21
    go_wp2_with fail
    refine hx.mono ?_
    rintro e w1 ⟨rfl, hb1⟩
    have HN1 : Hid (w1.heap[w.heap.size]? = some (.cells #[.int .i64 id.1, .int .u64 id.2] 31)) := (hb1.block _ (Array.getElem?_eq_some_iff.1 HN.out).1).trans HN.out
    have HT1 : Hid (Rt w1 base g L last) := HT.out.later hb1
    have HB1 : Hid (Below w.heap.size w w1) := HB.out.trans (hb1.mono HB.out.size)
    clear hx hb1 c1 p0 p1 HT HB HN
    cases hh : holdsR L id
    · have HE : Hid (freeR L last id a = 6) := by rw [Hid, freeR, if_neg (show ¬ a ≤ last by omega), if_neg (by rw [hh]; simp)]
      clear hal hh
      go_wp2
      go_ret
      exact ⟨by rw [HE.out]; rfl, ⟨fun e => (by rw [HE.out] at e; cases e), fun _ => HT1.out⟩, Fr.of HB1.out⟩
    · have HE : Hid (freeR L last id a = 0) := by rw [Hid, freeR, if_neg (show ¬ a ≤ last by omega), if_pos hh]
      clear hal hh
      obtain ⟨va, vc, h1, h2, c0, -⟩ := HT1.out.cells
      have HG : Hid (w1.heap[g]? = some (.cells #[.slice va L.length vc, .int .i64 last] 28 (0, 0))) := h1
      have HO : Hid (w1.ownsRow base 47 6 (.slice va L.length vc) L.length (L.flatMap Rw.cells)) := h2
      have HLO : Hid (base ≤ g) := HT1.out.lo
      clear h1 h2
      go_wp2
      go_loopw [7, 25] (fun v t wr => ∃ k : Nat, t = .int .i64 (k : Nat) ∧ k ≤ L.length ∧ Hid (wr.ownsRow w1.heap.size 47 6 v ((L.take k).map (endR id a)).length (((L.take k).map (endR id a)).flatMap Rw.cells)) ∧ Hid (Below w1.heap.size w1 wr)) (fun _ t _ => L.length - (intOf t).toNat)
      case atStart => exact ⟨0, rfl, by omega, World.ownsRow_nil _ _ _ _, Below.refl _ _⟩
      case round =>
        obtain ⟨k, rfl, hk, HV, HW⟩ := hrel
        by_cases hlt : k < L.length
        · obtain ⟨a', c', e, -, -, -, h5⟩ := rows_at (owns_later HO.out HW.out)
          simp only [Value.slice.injEq, true_and] at e
          obtain ⟨rfl, rfl⟩ := e
          obtain ⟨b, off, rfl, hc⟩ := h5 (by omega)
          have hr : L[k]? = some L[k] := List.getElem?_eq_getElem hlt
          generalize L[k] = r at hr
          obtain ⟨d0, d1, d2, d3, d4, d5⟩ := hc k r hr
          have HR : Hid ((L.take (k + 1)).map (endR id a) = (L.take k).map (endR id a) ++ [endR id a r]) := take_map _ hr
          have hlk : ((L.take k).map (endR id a)).length ≤ 100000 := by simp; omega
          clear hc h5 hr
          obtain ⟨x, key, wri, at_, till⟩ := r
          simp only at d0 d1 d2 d3 d4 d5
          have hn2 := (HW.out.block _ (Array.getElem?_eq_some_iff.1 HN1.out).1).trans HN1.out
          have p0 : wr.cell? ⟨w.heap.size, 0, none⟩ = some (.int .i64 id.1) := cell_of_heap hn2 rfl
          have p1 : wr.cell? ⟨w.heap.size, 1, none⟩ = some (.int .u64 id.2) := cell_of_heap hn2 rfl
          have hlt2 : w.heap.size < wr.heap.size := (Array.getElem?_eq_some_iff.1 hn2).1
          have heq := eql_31 x id
          have hws := HW.out.size
          clear hn2
          by_cases hq : till = 0 ∧ x = id
          · obtain ⟨rfl, rfl⟩ := hq
            have HEND : Hid (endR x a ⟨x, key, wri, at_, 0⟩ = ⟨x, key, wri, at_, a⟩) := by rw [Hid, endR, if_pos ⟨rfl, rfl⟩]
            rw [HEND.out] at HR
            simp only [decide_true] at heq
            have hg3 := heap_alloc_new (wr.alloc (.cells #[.int .i64 x.1, .int .u64 x.2, .string key, .bool wri, .int .i64 at_, .int .i64 a] 47)) (.cells #[.int .i64 x.1, .int .u64 x.2, .string key, .bool wri, .int .i64 at_, .int .i64 a] 47)
            rw [World.size_alloc] at hg3
            have hb3 : Below wr.heap.size wr ((wr.alloc (.cells #[.int .i64 x.1, .int .u64 x.2, .string key, .bool wri, .int .i64 at_, .int .i64 a] 47)).alloc (.cells #[.int .i64 x.1, .int .u64 x.2, .string key, .bool wri, .int .i64 at_, .int .i64 a] 47)) := ((Below.refl _ _).alloc (Nat.le_refl _) _).alloc (by simp) _
            have HV3 := owns_later HV.out hb3
            have hc3 := news_one Rw.cells ⟨x, key, wri, at_, a⟩ hg3 rfl
            have HX : Hid (Below w1.heap.size w1 ((wr.alloc (.cells #[.int .i64 x.1, .int .u64 x.2, .string key, .bool wri, .int .i64 at_, .int .i64 a] 47)).alloc (.cells #[.int .i64 x.1, .int .u64 x.2, .string key, .bool wri, .int .i64 at_, .int .i64 a] 47))) := HW.out.trans (hb3.mono hws)
            clear hb3 hg3
            go_wp2_with (at_builtin; refine wp_append_els Rw.cells 6 56 26 47 _ Try.underlying26 Try.info_47 rfl (by decide) (fun _ => rfl) (by decide) rfl _ _ rfl w1.heap.size _ _ rfl HV3 _ 1 1 [⟨x, key, wri, at_, a⟩] rfl rfl hc3 (Rw.one _) (by decide) (by omega) HX.out.size ?_; intro v2 w2 ho2 hg2 hv2)
            go_roundw
            case rel => exact ⟨k + 1, by go_num, by omega, by rw [HR.out]; exact ho2, HX.out.grown hg2 HX.out.size (fun j hj => (World.ownsRow.lt HV3 j hj).1)⟩
            case measure => simp [intOf]; omega
          · have HEND : Hid (endR id a ⟨x, key, wri, at_, till⟩ = ⟨x, key, wri, at_, till⟩) := by rw [Hid, endR, if_neg hq]
            rw [HEND.out] at HR
            have hg3 := heap_alloc_new (wr.alloc (.cells #[.int .i64 x.1, .int .u64 x.2, .string key, .bool wri, .int .i64 at_, .int .i64 till] 47)) (.cells #[.int .i64 x.1, .int .u64 x.2, .string key, .bool wri, .int .i64 at_, .int .i64 till] 47)
            rw [World.size_alloc] at hg3
            have hb3 : Below wr.heap.size wr ((wr.alloc (.cells #[.int .i64 x.1, .int .u64 x.2, .string key, .bool wri, .int .i64 at_, .int .i64 till] 47)).alloc (.cells #[.int .i64 x.1, .int .u64 x.2, .string key, .bool wri, .int .i64 at_, .int .i64 till] 47)) := ((Below.refl _ _).alloc (Nat.le_refl _) _).alloc (by simp) _
            have HV3 := owns_later HV.out hb3
            have hc3 := news_one Rw.cells ⟨x, key, wri, at_, till⟩ hg3 rfl
            have HX : Hid (Below w1.heap.size w1 ((wr.alloc (.cells #[.int .i64 x.1, .int .u64 x.2, .string key, .bool wri, .int .i64 at_, .int .i64 till] 47)).alloc (.cells #[.int .i64 x.1, .int .u64 x.2, .string key, .bool wri, .int .i64 at_, .int .i64 till] 47))) := HW.out.trans (hb3.mono hws)
            clear hb3 hg3
            have HQ : Hid (¬ (till = 0 ∧ x = id)) := hq
            clear hq
            by_cases ht : till = 0
            · subst ht
              have hd : decide (x = id) = false := by simp; exact fun e => HQ.out ⟨rfl, e⟩
              rw [hd] at heq
              clear hd
              go_wp2_with (at_builtin; refine wp_append_els Rw.cells 6 56 26 47 _ Try.underlying26 Try.info_47 rfl (by decide) (fun _ => rfl) (by decide) rfl _ _ rfl w1.heap.size _ _ rfl HV3 _ 1 1 [⟨x, key, wri, at_, 0⟩] rfl rfl hc3 (Rw.one _) (by decide) (by omega) HX.out.size ?_; intro v2 w2 ho2 hg2 hv2)
              go_roundw
              case rel => exact ⟨k + 1, by go_num, by omega, by rw [HR.out]; exact ho2, HX.out.grown hg2 HX.out.size (fun j hj => (World.ownsRow.lt HV3 j hj).1)⟩
              case measure => simp [intOf]; omega
            · have hb : (till == 0) = false := by simp [ht]
              clear ht
              go_wp2_with (at_builtin; refine wp_append_els Rw.cells 6 56 26 47 _ Try.underlying26 Try.info_47 rfl (by decide) (fun _ => rfl) (by decide) rfl _ _ rfl w1.heap.size _ _ rfl HV3 _ 1 1 [⟨x, key, wri, at_, till⟩] rfl rfl hc3 (Rw.one _) (by decide) (by omega) HX.out.size ?_; intro v2 w2 ho2 hg2 hv2)
              go_roundw
              case rel => exact ⟨k + 1, by go_num, by omega, by rw [HR.out]; exact ho2, HX.out.grown hg2 HX.out.size (fun j hj => (World.ownsRow.lt HV3 j hj).1)⟩
              case measure => simp [intOf]; omega
        · have hkk : L.take k = L := List.take_of_length_le (by omega)
          rw [hkk] at HV
          obtain ⟨qa, qn, qc, rfl⟩ := owns_slice HV.out
          have g3 := (HW.out.block g (Array.getElem?_eq_some_iff.1 HG.out).1).trans HG.out
          obtain ⟨hT, hF⟩ := Rt.put (a := a) HLO.out g3 (owns_mono HV.out (by have := HB1.out.size; omega))
          have HT2 : Hid (Rt ((wr.setCell ⟨g, 0, none⟩ (.slice qa qn qc)).setCell ⟨g, 1, none⟩ (.int .i64 a)) base g (L.map (endR id a)) a ∧ Fr base [28, 47] w ((wr.setCell ⟨g, 0, none⟩ (.slice qa qn qc)).setCell ⟨g, 1, none⟩ (.int .i64 a))) := ⟨hT, ((Fr.of HB1.out).trans (Fr.of HW.out)).trans hF⟩
          have z0 : wr.cell? ⟨g, 0, none⟩ = some (.slice va L.length vc) := cell_of_heap g3 rfl
          have z1 : wr.frozen? ⟨g, 0, none⟩ = false := frozen_of_row wr _ _ _ _ g3
          have z2 : (wr.setCell ⟨g, 0, none⟩ (.slice qa qn qc)).cell? ⟨g, 1, none⟩ = some (.int .i64 last) := cell_of_heap (two_set0 g3) rfl
          have z3 : (wr.setCell ⟨g, 0, none⟩ (.slice qa qn qc)).frozen? ⟨g, 1, none⟩ = false := frozen_of_row _ _ _ _ _ (two_set0 g3)
          clear hT hF g3 hkk
          go_wp2
          go_ret
          exact ⟨by rw [HE.out]; rfl, ⟨fun _ => HT2.out.1, fun e => absurd HE.out e⟩, HT2.out.2⟩
end Go.Proofs.Ytbhohedkgeokgaa
