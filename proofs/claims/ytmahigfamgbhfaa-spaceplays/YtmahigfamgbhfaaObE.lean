/- What an object's calls do: copies, Read, Last, Clean. -/
import Derived.Test.YtmahigfamgbhfaaObD
namespace Go.Proofs.Ytmahigfamgbhfaa
open Go.RowKit

/-- an object's slice, as it lies in memory -/
def Ob (w : World) (u : Value) (l : List Ver) : Prop :=
  ∃ a cap, u = .slice a l.length cap ∧ VRow w a l.length l ∧ l.length ≤ cap ∧ cap ≤ maxLen ∧ (a = none → l = [] ∧ cap = 0) ∧ l.length ≤ 1000000000 ∧ (∀ x, a = some x → ∃ b off, x = ⟨b, off, none⟩)
theorem Ob.later {w wx : World} {u : Value} {l : List Ver} (h : Ob w u l) (hb : Below w.heap.size w wx) : Ob wx u l := by
  obtain ⟨a, cap, h1, h2, h3⟩ := h
  exact ⟨a, cap, h1, h2.later hb, h3⟩
theorem Ob.nil (w : World) : Ob w (.slice none 0 0) [] := ⟨none, 0, rfl, VRow.nil _ _, by simp, by simp, by simp, by simp, by simp⟩
theorem VOwn.ob {w : World} {base : Nat} {e : TypeId} {v : Value} {l : List Ver} (h : VOwn w base e v l) (hl : l.length ≤ 1000000000) : Ob w v l := by
  have h0 := h.1.2
  obtain ⟨a, cap, h1, h2, h3, h4, h5⟩ := h.slice
  refine ⟨a, cap, h1, h2, h3, h4, h5, hl, fun x hx => ?_⟩
  subst hx
  rcases h0 with ⟨e1, _⟩ | ⟨g, cap', cur, e1, _⟩
  · rw [h1] at e1; simp at e1
  · rw [h1] at e1; simp at e1; exact ⟨g, 0, e1.1⟩
theorem VOwn.set_below {w : World} {base : Nat} {e : TypeId} {v : Value} {l : List Ver} (h : VOwn w base e v l) {a : Addr} (ha : a.block < base) (u : Value) : VOwn (w.setCell a u) base e v l := ⟨ownsRow_setCell_below h.1 ha u, h.2⟩

theorem VarV.sets {w : World} {p : Nat} {e : TypeId} {v : Ver} (h : VarV w p e v) :
    (∀ a, (w.setCell ⟨p, 0, none⟩ a).cell? ⟨p, 0, none⟩ = some a) ∧ (∀ a b, ((w.setCell ⟨p, 0, none⟩ a).setCell ⟨p, 1, none⟩ b).cell? ⟨p, 1, none⟩ = some b) ∧
    (∀ a b c, (((w.setCell ⟨p, 0, none⟩ a).setCell ⟨p, 1, none⟩ b).setCell ⟨p, 2, none⟩ c).cell? ⟨p, 2, none⟩ = some c) ∧
    (∀ a b c d, ((((w.setCell ⟨p, 0, none⟩ a).setCell ⟨p, 1, none⟩ b).setCell ⟨p, 2, none⟩ c).setCell ⟨p, 3, none⟩ d).cell? ⟨p, 3, none⟩ = some d) := by
  have h0 : ∀ a, _ := fun a => heap_setCell_same w p 0 _ e a h
  have h1 : ∀ a b, _ := fun a b => heap_setCell_same _ p 1 _ e b (h0 a)
  have h2 : ∀ a b c, _ := fun a b c => heap_setCell_same _ p 2 _ e c (h1 a b)
  have h3 : ∀ a b c d, _ := fun a b c d => heap_setCell_same _ p 3 _ e d (h2 a b c)
  exact ⟨fun a => cell_of_heap (h0 a) rfl, fun a b => cell_of_heap (h1 a b) rfl, fun a b c => cell_of_heap (h2 a b c) rfl, fun a b c d => cell_of_heap (h3 a b c d) rfl⟩

set_option maxRecDepth 100000 in
theorem clone_any (a : Option Addr) (n cap : Nat) (l : List Ver) (w : World) (hr : VRow w a n l) (hz : a = none → n = 0 ∧ cap = 0) (hlen : n ≤ 1000000000) :
    Calls Try.prog 44 #[.slice a n cap] w fun e w' => ∃ v, e = .returned v ∧ VOwn w' w.heap.size 36 v l ∧ Below w.heap.size w w' := by
  have q23 : ∀ (w : World) (a : Option Addr) (n c n' c' : Nat), (binOp .eql 23 (.slice a n c) (.slice none n' c')).run Try.prog w = .ok (.bool a.isNone) w := fun w a n c n' c' => Lib.run_eql_slice_nil w _ _ a n c n' c' Try.underlying23
  cases a with
  | none =>
    obtain ⟨rfl, rfl⟩ := hz rfl
    obtain rfl : l = [] := List.length_eq_zero_iff.1 hr.1
    go_enter Try.func44, Try.ntmps44
    go_wp2
    go_ret
    exact ⟨_, rfl, VOwn.nil _ _ _, Below.refl _ _⟩
  | some ad =>
    obtain ⟨i0, hi, hz0, hz1, hz2⟩ := info_parts Try.info_36
    have hm : n ≤ maxLen := hr.2.2.1
    have HN : Hid (∀ j u, (cellsL l)[j]? = some u → (w.alloc (.cells #[] 36)).cell? (ad.add j) = some u) := by
      intro j u hj
      have hr2 := hr.later (show Below w.heap.size w (w.alloc (.cells #[] 36)) from (Below.refl _ w).alloc (Nat.le_refl _) _)
      have hne : l ≠ [] := fun e => by rw [e] at hj; simp [cellsL] at hj
      obtain ⟨b, off, e, _⟩ := hr2.at (by rw [← hr.1]; exact List.length_pos_iff.2 hne)
      simp only [Option.some.injEq] at e
      subst e
      rw [Addr.add_lit]
      exact hr2.news j u hj
    have hl : (cellsL l).length = n * 4 := by rw [cellsL_length, hr.1]
    have hok := hr.2.1
    have HL : Hid (l.length = n) := hr.1
    clear hr
    go_enter Try.func44, Try.ntmps44
    go_wp2_with (at_builtin; refine wpList_append_own _ rfl _ _ 23 rfl w.heap.size 36 i0 _ 4 40 Try.underlying23 hi hz0 hz1 hz2 rfl (by decide) _ _ _ rfl (World.ownsRow_made w #[] 0 (Nat.le_refl _) (Nat.zero_le _) (by simp)) ad n cap (cellsL l) rfl hl HN.out (cellsL_one l) (by rw [Nat.zero_add]; exact hm) (by rw [Nat.zero_add]; omega) (by simp) ?_)
    intro v' w1 hown hgrow hnil
    go_wp2
    go_ret
    refine ⟨v', rfl, ⟨?_, hok⟩, ?_⟩
    · rw [HL.out]
      simpa using hown
    · exact ((Below.refl _ w).alloc (Nat.le_refl _) _).grown hgrow (by simp) (by intro k hk; simp [Value.ownBlock] at hk; omega)

theorem read_right (u : Value) (l : List Ver) (m : Int) (w : World) (h : Ob w u l) (hr : rightL l = true) :
    Calls Try.prog 17 #[.agg #[u], .int .i64 m] w fun e w' => e = .returned (.tuple #[(readV l m).value, .bool (readB l m)]) ∧ Below w.heap.size w w' := by
  obtain ⟨a, cap, rfl, hv, hc, hm, hz, hlen, -⟩ := h
  have HB : Hid (Below w.heap.size w ((w.alloc (.cells #[.slice a l.length cap] 25)).alloc (.cells #[.int .i64 0, .int .u64 0, .string ⟨#[]⟩, .bool false] 36))) := ((Below.refl _ w).alloc (Nat.le_refl _) _).alloc (by simp) _
  have hbx : ((w.alloc (.cells #[.slice a l.length cap] 25)).alloc (.cells #[.int .i64 0, .int .u64 0, .string ⟨#[]⟩, .bool false] 36)).heap[w.heap.size]? = some (.cells #[.slice a l.length cap] 25) := (heap_alloc_old _ _ (by simp)).trans (heap_alloc_new w _)
  have hvx : VarV ((w.alloc (.cells #[.slice a l.length cap] 25)).alloc (.cells #[.int .i64 0, .int .u64 0, .string ⟨#[]⟩, .bool false] 36)) (w.heap.size + 1) 36 Ver.zero := by
    have := heap_alloc_new (w.alloc (.cells #[.slice a l.length cap] 25)) (.cells #[.int .i64 0, .int .u64 0, .string ⟨#[]⟩, .bool false] 36)
    rwa [World.size_alloc] at this
  have h1 := right_any a l.length cap l _ (hv.later HB.out)
  rw [hr] at h1
  go_enter Try.func17, Try.ntmps17
  go_wp2_with fail
  refine h1.mono ?_
  clear h1
  rintro e w1 ⟨rfl, hb1⟩
  have HB1 : Hid (Below w.heap.size w w1) := HB.out.trans (hb1.mono HB.out.size)
  have hbx1 := (hb1.block w.heap.size (Array.getElem?_eq_some_iff.1 hbx).1).trans hbx
  have hvx1 := hvx.later hb1
  have h2 := upTo_any a l.length cap m l w1 (hv.later HB1.out) (right_rises hr) hlen
  have HVR : Hid (VRow w a l.length l) := hv
  have hul := upTo_le l m
  clear HB hbx hvx hb1 hv
  have c0 : w1.cell? ⟨w.heap.size, 0, none⟩ = some (.slice a l.length cap) := cell_of_heap hbx1 rfl
  go_wp2_with fail
  refine h2.mono ?_
  clear h2
  rintro e w2 ⟨rfl, hb2⟩
  have HB2 : Hid (Below w.heap.size w w2) := HB1.out.trans (hb2.mono HB1.out.size)
  have c2 : w2.cell? ⟨w.heap.size, 0, none⟩ = some (.slice a l.length cap) := cell_later hb2 c0
  have hvx2 := hvx1.later hb2
  have HV2 : Hid (VarV w2 (w.heap.size + 1) 36 Ver.zero) := hvx2
  obtain ⟨z0, z1, z2, z3⟩ := hvx2.cells
  have f0 := hvx2.free 0
  have f1 := hvx2.free 1
  have f2 := hvx2.free 2
  have f3 := hvx2.free 3
  obtain ⟨s0, s1, s2, s3⟩ := hvx2.sets
  clear hb2 c0 hbx1 hvx1 hvx2 HB1
  have hrow := HVR.out.later HB2.out
  by_cases hk : upTo l m = 0
  · have HQ : Hid (readV l m = Ver.zero ∧ readB l m = false) := ⟨by simp [readV, hk], by simp [readB, hk]⟩
    rw [hk]
    clear hrow hk hul
    go_wp2
    refine bodyPost_ret (v := .tuple #[Ver.zero.value, .bool false]) (by simp [results, Try.results17, go_sem, s0, s1, s2, s3, Ver.zero]) rfl ?_
    refine ⟨?_, below_set4 HB2.out (by omega)⟩
    rw [HQ.out.1, HQ.out.2]
  · obtain ⟨k, hk1⟩ : ∃ k, upTo l m = k + 1 := ⟨upTo l m - 1, by omega⟩
    have HQ : Hid (readV l m = nth l k ∧ readB l m = true) := ⟨by rw [readV, if_neg hk, hk1]; rfl, by simp [readB, hk]⟩
    rw [hk1] at hul hk ⊢
    obtain ⟨b, off, rfl, hcc⟩ := hrow.at (by omega)
    obtain ⟨d0, d1, d2, d3⟩ := hcc k (by omega)
    have e1 : ((k : Int) + 1 == 0) = false := by simp; omega
    clear hcc hrow hk1 hk
    generalize nth l k = v at *
    go_wp2
    refine bodyPost_ret (v := .tuple #[v.value, .bool true]) (by simp [results, Try.results17, go_sem, s0, s1, s2, s3]) rfl ?_
    refine ⟨?_, below_set4 HB2.out (by omega)⟩
    rw [HQ.out.1, HQ.out.2]
end Go.Proofs.Ytmahigfamgbhfaa
