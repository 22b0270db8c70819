/- Free of a table: a contract. -/
import Derived.Test.YtbhohedkgeokgaaLkG
namespace Go.Proofs.Ytbhohedkgeokgaa
open Go Go.RowKit
set_option linter.unusedVariables false
set_option linter.unusedSimpArgs false

theorem erase_first (p : Spn → Bool) : ∀ (l : List Spn) (k : Nat) (s : Spn), l[k]? = some s → p s = true → (∀ j x, j < k → l[j]? = some x → p x = false) → l.eraseIdx k = l.eraseP p := by
  intro l
  induction l with
  | nil => intro k s h; simp at h
  | cons x l ih =>
    intro k s h hp hn
    cases k with
    | zero => simp at h; subst h; rw [List.eraseP_cons_of_pos hp]; rfl
    | succ k =>
      have h0 := hn 0 x (by omega) (by simp)
      rw [List.eraseP_cons_of_neg (by rw [h0]; simp), List.eraseIdx_cons_succ, ih k s (by simpa using h) hp (fun j y hj hy => hn (j + 1) y (by omega) (by simpa using hy))]

/-- the list of those that are held is another one, and the last number: memory -/
theorem Tb.put_held {w w1 : World} {base g : Nat} {H H' F : List Spn} {last a : Int} {hv fv v : Value} (h0 : w.heap[g]? = some (.cells #[hv, fv, .int .i64 last] 54 (0, 0))) (hlo : base ≤ g) (h1 : SpO w base hv H) (h2 : SpO w base fv F) (h3 : ∀ k, hv.ownBlock = some k → fv.ownBlock ≠ some k)
    (k1 : ∀ s ∈ H', SR w s.rv s.rd ∧ SR w s.wv s.wr) (hw : w1.ownsRow base 58 6 v H'.length (H'.flatMap Spn.cells)) (hg : w.grownBy w1 hv.ownBlock) (hb : v.ownBlock = hv.ownBlock ∨ v.ownBlock = some w.heap.size) :
    Tb ((w1.setCell ⟨g, 0, none⟩ v).setCell ⟨g, 2, none⟩ (.int .i64 a)) base g H' F a ∧ Fr base [54, 58] w ((w1.setCell ⟨g, 0, none⟩ v).setCell ⟨g, 2, none⟩ (.int .i64 a)) ∧ w1.heap[g]? = some (.cells #[hv, fv, .int .i64 last] 54 (0, 0)) := by
  have hgl := (Array.getElem?_eq_some_iff.1 h0).1
  have hgf : some g ≠ hv.ownBlock := by
    intro e
    have := (ownBlock_58 h1.own g e.symm).2.2
    rw [tagOf_heap h0] at this
    cases this
  have h0' : w1.heap[g]? = some (.cells #[hv, fv, .int .i64 last] 54 (0, 0)) := (hg.block g hgl hgf).trans h0
  have f1 : Fr base [54, 58] w w1 := Fr.grown hg (fun k hk => ⟨(ownBlock_58 h1.own k hk).1, 58, by simp, (ownBlock_58 h1.own k hk).2.2⟩)
  have f2 : Fr base [54] w1 (w1.setCell ⟨g, 0, none⟩ v) := Fr.setCell v hlo (t := 54) (by simp) (tagOf_heap h0')
  have f3 : Fr base [54] (w1.setCell ⟨g, 0, none⟩ v) ((w1.setCell ⟨g, 0, none⟩ v).setCell ⟨g, 2, none⟩ (.int .i64 a)) := Fr.setCell _ hlo (t := 54) (by simp) (tagOf_heap (three_set0 h0'))
  have f23 := f2.trans f3
  have hF : w1.ownsRow base 58 6 fv F.length (F.flatMap Spn.cells) := World.ownsRow.kept h2.own hg (by
    cases e : fv.ownBlock with
    | none => exact .inl rfl
    | some k => exact .inr (fun e2 => h3 k e2.symm e))
  refine ⟨⟨hlo, v, fv, three_set2 (three_set0 h0'), ⟨f23.owns hw (by simp), fun t ht => ?_⟩, ⟨f23.owns hF (by simp), fun t ht => ?_⟩, fun k hk e => ?_⟩, f1.trans (f23.sub (by simp)), h0'⟩
  · exact ⟨((k1 t ht).1.fr f1 (by simp)).fr f23 (by simp), ((k1 t ht).2.fr f1 (by simp)).fr f23 (by simp)⟩
  · exact ⟨((h2.keys t ht).1.fr f1 (by simp)).fr f23 (by simp), ((h2.keys t ht).2.fr f1 (by simp)).fr f23 (by simp)⟩
  · rcases hb with hb | hb
    · exact h3 k (hb ▸ hk) e
    · rw [hb] at hk
      simp only [Option.some.injEq] at hk
      have := (ownBlock_58 h2.own k e).2.1
      omega

/-- what Free has done -/
structure Freed (w' : World) (base g : Nat) (H F : List Spn) (last : Int) (id : Id) (a : Int) : Prop where
  yes : freeE H last id a = 0 → ∃ s, s ∈ H ∧ s.id = id ∧ Tb w' base g (H.eraseP (fun s => decide (s.id = id))) (keepF F s a) a
  no : freeE H last id a ≠ 0 → Tb w' base g H F last

set_option maxRecDepth 100000 in
set_option maxHeartbeats 4000000 in
theorem free_any (base g : Nat) (H F : List Spn) (last : Int) (id : Id) (a : Int) (w : World) (h : Tb w base g H F last) (hlen : H.length ≤ 1000) (hlenF : F.length ≤ 1000) (hbase : base ≤ w.heap.size) :
    Calls Try.prog 20 #[.pointer (some ⟨g, 0, none⟩), idv id, .int .i64 a] w fun e w' => e = .returned (.int .i64 (freeE H last id a)) ∧ Freed w' base g H F last id a ∧ Fr base [54, 58] w w' := by
  have hb0 : Below w.heap.size w (w.alloc (.cells #[.int .i64 id.1, .int .u64 id.2] 31)) := (Below.refl _ _).alloc (Nat.le_refl _) _
  have hn := heap_alloc_new w (.cells #[.int .i64 id.1, .int .u64 id.2] 31)
  have p0 : (w.alloc (.cells #[.int .i64 id.1, .int .u64 id.2] 31)).cell? ⟨w.heap.size, 0, none⟩ = some (.int .i64 id.1) := cell_of_heap hn rfl
  have p1 : (w.alloc (.cells #[.int .i64 id.1, .int .u64 id.2] 31)).cell? ⟨w.heap.size, 1, none⟩ = some (.int .u64 id.2) := cell_of_heap hn rfl
  have HT : Hid (Tb (w.alloc (.cells #[.int .i64 id.1, .int .u64 id.2] 31)) base g H F last) := h.later hb0
  have HB : Hid (Below w.heap.size w (w.alloc (.cells #[.int .i64 id.1, .int .u64 id.2] 31))) := hb0
  obtain ⟨ha, hc, fa, fc, -, -, -, -, -, c2, -⟩ := HT.out.cells
  clear h hb0 hn
  by_cases hal : a ≤ last
  · have HE : Hid (freeE H last id a = 1) := by rw [Hid, freeE, if_pos hal]
    go_enter Try.func20, Try.ntmps20
    go_wp2
    go_ret
    exact ⟨by rw [HE.out]; rfl, ⟨fun e => (by rw [HE.out] at e; cases e), fun _ => HT.out⟩, Fr.of HB.out⟩
  · have hx := place_any base g H F last id _ HT.out hlen
    go_enter Try.func20, Try.ntmps20
    go_wp2_with fail
    refine hx.mono ?_
    rintro e w1 ⟨⟨i, rfl, hi⟩, hb1⟩
    have HT1 : Hid (Tb w1 base g H F last) := HT.out.later hb1
    have HB1 : Hid (Below w.heap.size w w1) := HB.out.trans (hb1.mono HB.out.size)
    clear hx hb1 c2 p0 p1 HT HB
    rcases hi with ⟨hno, rfl⟩ | ⟨k, s, rfl, hk, hp, hf⟩
    · have HE : Hid (freeE H last id a = 6) := by
        rw [Hid, freeE, if_neg (show ¬ a ≤ last by omega), if_neg]
        rw [show holdsS H id = H.any (idP id) from rfl, hno]
        simp
      clear hal hno
      go_wp2
      go_ret
      exact ⟨by rw [HE.out]; rfl, ⟨fun e => (by rw [HE.out] at e; cases e), fun _ => HT1.out⟩, Fr.of HB1.out⟩
    · have hkl : k < H.length := (List.getElem?_eq_some_iff.1 hk).1
      have HE : Hid (freeE H last id a = 0) := by
        rw [Hid, freeE, if_neg (show ¬ a ≤ last by omega), if_pos]
        exact List.any_eq_true.2 ⟨s, List.mem_of_getElem? hk, hp⟩
      have HER : Hid (H.eraseIdx k = H.eraseP (fun s => decide (s.id = id))) := erase_first (idP id) H k s hk hp hf
      have HSI : Hid (s ∈ H ∧ s.id = id) := ⟨List.mem_of_getElem? hk, by simpa [idP] using hp⟩
      obtain ⟨ha, hc, fa, fc, h1, h2, h3, c0, c1, c2, h4⟩ := HT1.out.cells
      obtain ⟨a', c', e, -, -, -, h5⟩ := h2.at
      simp only [Value.slice.injEq, true_and] at e
      obtain ⟨rfl, rfl⟩ := e
      obtain ⟨b, off, rfl, hcc⟩ := h5 (by omega)
      obtain ⟨ra, rc, wa, wc, e1, e2, k1, k2, d0, d1, d2, d3, d4, d5⟩ := hcc k s hk
      have hx := keep_any base g H F last s a w1 HT1.out (e1 ▸ k1) (e2 ▸ k2) hlenF (by have := HB1.out.size; omega)
      rw [show s.value = .agg #[.int .i64 s.id.1, .int .u64 s.id.2, .int .i64 s.at_, .int .i64 s.till, .slice ra s.rd.length rc, .slice wa s.wr.length wc] by simp only [Spn.value]; rw [e1, e2]] at hx
      clear h1 h2 h3 h4 h5 hcc k1 k2 e1 e2 hal hp hf hk c1 c2
      go_wp2_with fail
      refine hx.mono ?_
      rintro e w2 ⟨rfl, hT2, hF2⟩
      have HT2 : Hid (Tb w2 base g H (keepF F s a) last) := hT2
      have HF2 : Hid (Fr base [54, 58] w w2) := (Fr.of HB1.out).trans hF2
      clear hx hT2 hF2 d0 d1 d2 d3 d4 d5 c0 HT1
      obtain ⟨ha, hc, fa, fc, h1, h2, h3, c0, c1, c2, h4⟩ := HT2.out.cells
      obtain ⟨bb, cap, cur, e, hbb, hh, hnc, hm, hs, ht⟩ : ∃ bb cap cur, Value.slice ha H.length hc = .slice (some ⟨bb, 0, none⟩) H.length cap ∧ base ≤ bb ∧ w2.heap[bb]? = some (.cells cur 58 (0, 0)) ∧ H.length ≤ cap ∧ cap ≤ maxLen ∧ cur.size = cap * 6 ∧ cur.toList.take (H.length * 6) = H.flatMap Spn.cells := by
        rcases h2.own.2 with ⟨_, hz⟩ | hx
        · omega
        · exact hx
      simp only [Value.slice.injEq, true_and] at e
      obtain ⟨rfl, rfl⟩ := e
      have hone : ∀ u ∈ H.flatMap Spn.cells, u.oneCell' = true := by
        intro u hu
        obtain ⟨x, hx, hu⟩ := List.mem_flatMap.1 hu
        exact Spn.one (h2.keys x hx).1 (h2.keys x hx).2 u (by simpa using hu)
      have hx := delete_any base bb hc k cur H w2 hbb hh hs hnc hm ht hone hkl hlen
      have HH : Hid (∀ v w3, w3.ownsRow base 58 6 v (H.eraseIdx k).length ((H.eraseIdx k).flatMap Spn.cells) → w2.grownBy w3 (some bb) → v.ownBlock = some bb → Tb ((w3.setCell ⟨g, 0, none⟩ v).setCell ⟨g, 2, none⟩ (.int .i64 a)) base g (H.eraseIdx k) (keepF F s a) a ∧ Fr base [54, 58] w2 ((w3.setCell ⟨g, 0, none⟩ v).setCell ⟨g, 2, none⟩ (.int .i64 a)) ∧ w3.heap[g]? = some (.cells #[.slice (some ⟨bb, 0, none⟩) H.length hc, .slice fa (keepF F s a).length fc, .int .i64 last] 54 (0, 0))) :=
        fun v w3 q1 q2 q3 => Tb.put_held h1 HT2.out.lo h2 h3 h4 (fun t ht => h2.keys t (List.mem_of_mem_eraseIdx ht)) q1 q2 (.inl q3)
      clear h1 h2 h3 h4 hone hh hs ht hbb c1 c2
      go_wp2_with fail
      refine hx.mono ?_
      rintro e w3 ⟨⟨v, rfl, hvb, hv⟩, hg3⟩
      obtain ⟨va, vn, vc, rfl⟩ := owns_slice hv
      obtain ⟨hT4, hF4, g3⟩ := HH.out _ w3 hv hg3 hvb
      have HT4 : Hid (Tb ((w3.setCell ⟨g, 0, none⟩ (.slice va vn vc)).setCell ⟨g, 2, none⟩ (.int .i64 a)) base g (H.eraseIdx k) (keepF F s a) a) := hT4
      have HF4 : Hid (Fr base [54, 58] w ((w3.setCell ⟨g, 0, none⟩ (.slice va vn vc)).setCell ⟨g, 2, none⟩ (.int .i64 a))) := HF2.out.trans hF4
      have z0 : w3.cell? ⟨g, 0, none⟩ = some (.slice (some ⟨bb, 0, none⟩) H.length hc) := cell_of_heap g3 rfl
      have z1 : w3.frozen? ⟨g, 0, none⟩ = false := frozen_of_row w3 _ _ _ _ g3
      have z2 : (w3.setCell ⟨g, 0, none⟩ (.slice va vn vc)).cell? ⟨g, 2, none⟩ = some (.int .i64 last) := cell_of_heap (three_set0 g3) rfl
      have z3 : (w3.setCell ⟨g, 0, none⟩ (.slice va vn vc)).frozen? ⟨g, 2, none⟩ = false := frozen_of_row _ _ _ _ _ (three_set0 g3)
      clear hx hT4 hF4 g3 hv hg3 hvb c0 HH HT2 HF2
      go_wp2
      go_ret
      refine ⟨by rw [HE.out]; rfl, ⟨fun _ => ⟨s, HSI.out.1, HSI.out.2, ?_⟩, fun e => absurd HE.out e⟩, HF4.out⟩
      rw [← HER.out]
      exact HT4.out
end Go.Proofs.Ytbhohedkgeokgaa
