/- What package wal's look does at a disk that is there: a contract. -/
import Derived.Test.YtmlpneiadkngaaaDoorWaF
namespace Go.Proofs.YtmlpneiadkngaaaDoor
open Go.RowKit

theorem Fr.code_ne (bs : List Nat) : Fr.code bs ≠ 12 := by
  unfold Fr.code Fr.lcode
  repeat' split
  all_goals omega

/-- rows stay where only a block of another make is written -/
theorem RecO.frm {w w' : World} {base g : Nat} {v : Value} {rs : List (List Nat)} {C : Array Value} {mk : Nat × Nat} (h : RecO w base v rs) (hf : Frm (· = g) w w') (hh : w.heap[g]? = some (.cells C 54 mk)) : RecO w' base v rs := by
  obtain ⟨vs, h1, h2, h3⟩ := h
  have key : ∀ {e : TypeId} {x : Value} {m : Nat} {xs : List Value}, e ≠ 54 → w.ownsRow base e 1 x m xs → ∀ k, x.ownBlock = some k → ¬ (k = g) := by
    intro e x m xs he hx k hk hkg
    rcases hx.2 with ⟨rfl, _⟩ | ⟨g', cap, cur, rfl, _, hg', _⟩
    · cases hk
    · have e1 : g' = k := by simpa [Value.ownBlock] using hk
      subst e1
      rw [hkg, hh] at hg'
      simp only [Option.some.injEq, Obj.cells.injEq] at hg'
      exact he hg'.2.1.symm
  refine ⟨vs, ?_, h2, fun i x r hx hr => (h3 i x r hx hr).fr hf (key (by decide) (h3 i x r hx hr).1)⟩
  obtain ⟨hl, h1'⟩ := h1
  refine ⟨hl, ?_⟩
  rcases h1' with h | ⟨g', cap, cur, rfl, hb, hh', hr⟩
  · exact .inl h
  · exact .inr ⟨g', cap, cur, rfl, hb, by rw [hf.block g' (heap_lt hh') (key (by decide) ⟨hl, .inr ⟨g', cap, cur, rfl, hb, hh', hr⟩⟩ g' rfl)]; exact hh', hr⟩

theorem RecO.first {w : World} {base : Nat} {v : Value} {hd : List Nat} {rs : List (List Nat)} (h : RecO w base v (hd :: rs)) :
    ∃ gg c2 a0 n0 c0, v = .slice (some ⟨gg, 0, none⟩) (rs.length + 1) c2 ∧ rs.length + 1 ≤ c2 ∧ c2 ≤ maxLen ∧ w.cell? ⟨gg, 0, none⟩ = some (.slice a0 n0 c0) ∧ Row w a0 n0 hd ∧ n0 ≤ c0 ∧ c0 ≤ maxLen := by
  obtain ⟨vs, h1, h2, h3⟩ := h
  obtain ⟨a, cap, hv, hc, hm, hn, hs⟩ := h1.shape
  rw [List.length_cons] at h2
  cases a with
  | none =>
    have := (hn rfl).1
    rw [this] at h2
    simp at h2
  | some x =>
    obtain ⟨gg, rfl, _, _, hcell⟩ := hs x rfl
    have hx : vs[0]? = some (vs[0]'(by omega)) := List.getElem?_eq_getElem (by omega)
    obtain ⟨a0, n0, c0, e0, hrow, hc0, hm0, _⟩ := (h3 0 _ hd hx rfl).slice
    refine ⟨gg, cap, a0, n0, c0, by rw [hv, h2], by omega, hm, ?_, hrow, hc0, hm0⟩
    rw [hcell 0 _ hx, e0]
theorem Fr.recs_head (bs : List Nat) : ∀ k, 0 < k → (Fr.recs bs k)[0]? = some (Fr.rec bs)
  | 0, h => absurd h (by omega)
  | 1, _ => by simp [Fr.recs, Fr.ends]
  | k + 2, _ => by
    have := Fr.recs_head bs (k + 1) (by omega)
    rw [Fr.recs, List.getElem?_append_left (by rw [Fr.recs_length]; omega)]
    exact this
theorem Fr.rec_le (bs : List Nat) : (Fr.rec bs).length ≤ bs.length := by
  unfold Fr.rec
  rw [List.length_take, List.length_drop]
  omega

theorem Recv.tail {w : World} {g off n : Nat} {h : List Nat} {rs : List (List Nat)} (hr : Recv w (some ⟨g, off, none⟩) (n + 1) (h :: rs)) : Recv w (some ⟨g, off + 1, none⟩) n rs := by
  obtain ⟨h1, h2⟩ := hr
  refine ⟨by simpa using h1, ?_⟩
  rcases h2 with h2 | ⟨g', off', e, hc⟩
  · omega
  · right
    simp only [Option.some.injEq, Addr.mk.injEq] at e
    obtain ⟨rfl, rfl, _⟩ := e
    refine ⟨_, _, rfl, fun i r hi => ?_⟩
    have := hc (i + 1) r (by simpa using hi)
    rw [show off + (i + 1) = off + 1 + i by omega] at this
    exact this

set_option maxHeartbeats 2000000 in
set_option maxRecDepth 100000 in
theorem look_ok (g : Nat) (S : Nat → Prop) (d : DS) (k : Int) (w : World) (hg : G w) (h : Dk w S g d) (hk : k = 0 ∨ k = 1) (hl : d.lost = false) (hs : (d.get k).length ≤ 100000) :
    Calls Tryd.prog 23 #[.pointer (some ⟨g, 0, none⟩), .int .i64 k] w fun e w' => ∃ f v c kk, e = .returned (.tuple #[f, v]) ∧ Found w' w.heap.size (d.get k) kk f ∧ Err w' c v ∧ c ≠ 12 ∧ Below w.heap.size w w' := by
  have e1 : d.read k = (d.get k, 0) := by unfold DS.read; rw [if_neg (fun h => h hk), if_neg (by rw [hl]; simp)]
  have hB : Below w.heap.size w (w.alloc (.cells #[.int .i64 0, .int .i64 0, .bool false, .int .u64 0, .slice none 0 0] 54)) := below_new _ _
  have hrd := dread_any g S d k _ (h.later hB)
  rw [e1] at hrd
  dsimp only at hrd
  have HB : Hid (Below _ _ _) := hB
  have hh := heap_new w (.cells #[.int .i64 0, .int .i64 0, .bool false, .int .u64 0, .slice none 0 0] 54)
  have HH : Hid (_ = _) := hh
  have HG : Hid (G w) := hg
  generalize d.get k = bs at *
  clear hB h hh hg e1
  go_enter Tryd.func23, Tryd.ntmps23
  go_wp2_with fail
  refine hrd.mono ?_
  clear hrd
  rintro e w1 ⟨v, rfl, ho, hb⟩
  have hB1 : Below w.heap.size w w1 := HB.out.trans (hb.mono HB.out.size)
  have hlt : w.heap.size < (w.alloc (.cells #[.int .i64 0, .int .i64 0, .bool false, .int .u64 0, .slice none 0 0] 54)).heap.size := heap_lt HH.out
  have hh1 : w1.heap[w.heap.size]? = some (.cells #[.int .i64 0, .int .i64 0, .bool false, .int .u64 0, .slice none 0 0] 54 (0, 0)) := by
    rw [hb.block _ hlt]
    exact HH.out
  obtain ⟨a, n, c, rfl, hrow, hcap, hmax, hz, -⟩ := ho.slice
  have hn : bs.length = n := hrow.1
  have hBA : Below w1.heap.size w1 (w1.alloc (.cells #[.int .i64 n, .int .i64 0, .bool false, .int .u64 0, .slice none 0 0] 54)) := below_new _ _
  have hall := all_any a n c bs _ (HG.out.later (hB1.trans (hBA.mono hB1.size))) (hrow.later hBA) (by omega) hcap hmax hz
  have hhA := heap_new w1 (.cells #[.int .i64 n, .int .i64 0, .bool false, .int .u64 0, .slice none 0 0] 54)
  have hhB : (w1.alloc (.cells #[.int .i64 n, .int .i64 0, .bool false, .int .u64 0, .slice none 0 0] 54)).heap[w.heap.size]? = some (.cells #[.int .i64 0, .int .i64 0, .bool false, .int .u64 0, .slice none 0 0] 54 (0, 0)) := by
    rw [hBA.block _ (heap_lt hh1)]
    exact hh1
  have hAB : w.heap.size < w1.heap.size := heap_lt hh1
  have HBX : Hid (Below w.heap.size w (w1.alloc (.cells #[.int .i64 n, .int .i64 0, .bool false, .int .u64 0, .slice none 0 0] 54))) := hB1.trans (hBA.mono hB1.size)
  clear hB1 hlt hh1 hBA hrow ho hb HB HH hcap hmax hz
  go_wp2_with fail
  generalize w1.alloc (.cells #[.int .i64 n, .int .i64 0, .bool false, .int .u64 0, .slice none 0 0] 54) = wA at *
  refine hall.mono ?_
  clear hall
  rintro e w2 ⟨v2, kk, rfl, hst, hro, hb2⟩
  have HB2 : Hid (Below w.heap.size w w2) := HBX.out.trans (hb2.mono HBX.out.size)
  have HBS : Hid (w.heap.size ≤ wA.heap.size) := HBX.out.size
  have hA2 : w2.heap[w1.heap.size]? = some (.cells #[.int .i64 n, .int .i64 0, .bool false, .int .u64 0, .slice none 0 0] 54 (0, 0)) := by rw [hb2.block _ (heap_lt hhA)]; exact hhA
  have hB2 : w2.heap[w.heap.size]? = some (.cells #[.int .i64 0, .int .i64 0, .bool false, .int .u64 0, .slice none 0 0] 54 (0, 0)) := by rw [hb2.block _ (heap_lt hhB)]; exact hhB
  have HA2 : Hid (_ = _) := hA2
  have HBB2 : Hid (_ = _) := hB2
  clear hb2 hhA hhB HBX hA2 hB2
  cases hrc : Fr.recs bs kk with
  | nil =>
    have hkk : kk = 0 := by have := Fr.recs_length bs kk; rw [hrc] at this; simpa using this.symm
    subst hkk
    have he0 : Fr.ends bs 0 = 0 := rfl
    rw [he0]
    rw [hrc] at hro
    obtain ⟨a2, c2, rfl, -, -, -⟩ := hro.recs.form
    have hcn := hst.2
    rw [he0] at hcn
    rw [List.drop_zero] at hcn ⊢
    have HST : Hid (Fr.Stop bs 0) := hst
    have HRC : Hid (Fr.recs bs 0 = []) := hrc
    have hc12 := Fr.code_ne bs
    generalize Fr.code bs = cc at *
    clear hst hro hrc he0
    obtain ⟨x0, x1, x2, x3, x4, xf⟩ := cells5 HA2.out
    obtain ⟨y0, y1, y2, y3, y4, yf⟩ := cells5 HBB2.out
    have yf0 := yf 0
    have yf1 := yf 1
    have yf2 := yf 2
    have yf3 := yf 3
    have yf4 := yf 4
    clear xf yf
    have hne := new_bad ⟨#[104, 101, 97, 100]⟩ cc w2.drew (by omega)
    have q0 : Hid (w2.drew.heap[w1.heap.size]? = _) := HA2.out
    have q1 : Hid (w2.drew.heap[w.heap.size]? = _) := HBB2.out
    have hBd : Hid (Below w.heap.size w w2.drew) := below_drewN HB2.out 1
    go_wp2
    go_region_with (go_at_call 32; refine hne.mono ?_; rintro e w3 ⟨v3, rfl, hv3, hb3⟩; obtain ⟨z0, z1, z2, z3, z4, -⟩ := cells5 (show w3.heap[w1.heap.size]? = some (.cells #[.int .i64 n, .int .i64 0, .bool false, .int .u64 0, .slice none 0 0] 54 (0, 0)) by rw [hb3.block _ (heap_lt q0.out)]; exact q0.out); have Q3 : Hid (w3.heap[w.heap.size]? = some (.cells #[.int .i64 0, .int .i64 0, .bool false, .int .u64 0, .slice none 0 0] 54 (0, 0))) := (by show w3.heap[w.heap.size]? = _; rw [hb3.block _ (heap_lt q1.out)]; exact q1.out); have u0 := (cells5 Q3.out).1; have u1 := (cells5 Q3.out).2.1; have u2 := (cells5 Q3.out).2.2.1; have u3 := (cells5 Q3.out).2.2.2.1; have u4 := (cells5 Q3.out).2.2.2.2.1; have t0 := (cells5 Q3.out).2.2.2.2.2 0; have t1 := (cells5 Q3.out).2.2.2.2.2 1; have t2 := (cells5 Q3.out).2.2.2.2.2 2; have t3 := (cells5 Q3.out).2.2.2.2.2 3; have t4 := (cells5 Q3.out).2.2.2.2.2 4; have HB3 : Hid (Below w.heap.size w w3) := hBd.out.trans (hb3.mono hBd.out.size); have HV3 : Hid (Errv w3 cc _ v3) := hv3; clear hb3 hv3)
    all_goals go_wp2
    all_goals
      obtain ⟨hW, hfr⟩ := five w3 w.heap.size _ _ _ _ _ (.int .i64 n) (.int .i64 0) (.bool false) (.int .u64 0) (.slice none 0 0) Q3.out
      have HF : Hid (Frm (· = w.heap.size) w3 (((((w3.setCell ⟨w.heap.size, 0, none⟩ (.int .i64 n)).setCell ⟨w.heap.size, 1, none⟩ (.int .i64 0)).setCell ⟨w.heap.size, 2, none⟩ (.bool false)).setCell ⟨w.heap.size, 3, none⟩ (.int .u64 0)).setCell ⟨w.heap.size, 4, none⟩ (.slice none 0 0))) := hfr
      clear u0 u1 u2 u3 u4 t0 t1 t2 t3 t4 hfr
      generalize (((((w3.setCell ⟨w.heap.size, 0, none⟩ (.int .i64 n)).setCell ⟨w.heap.size, 1, none⟩ (.int .i64 0)).setCell ⟨w.heap.size, 2, none⟩ (.bool false)).setCell ⟨w.heap.size, 3, none⟩ (.int .u64 0)).setCell ⟨w.heap.size, 4, none⟩ (.slice none 0 0)) = W at *
      obtain ⟨c0, c1, c2, c3, c4, -⟩ := cells5 hW
      clear hW
      refine bodyPost_ret (by simp [results, Tryd.results23, go_sem, c0, c1, c2, c3, c4]; try rfl) rfl ?_
      refine ⟨_, v3, cc, 0, rfl, ⟨?_, HST.out⟩, .inr ⟨hcn, _, HV3.out.frm HF.out Q3.out (by decide)⟩, hc12, HB3.out.trans (HF.out.below HB3.out.size (fun k hk => by omega))⟩
      simp only [Wa.whole, HRC.out]
      rw [hn]
  | cons hd rs =>
    have hkk : 0 < kk := by
      rcases Nat.eq_zero_or_pos kk with h0 | h0
      · subst h0; cases hrc
      · exact h0
    have hhd : hd.length ≤ 100000 := by
      have h1 := Fr.recs_head bs kk hkk
      rw [hrc] at h1
      simp only [List.getElem?_cons_zero, Option.some.injEq] at h1
      rw [h1]
      exact Nat.le_trans (Fr.rec_le bs) hs
    rw [hrc] at hro
    obtain ⟨gg, cc2, a0, n0, c0, rfl, hcc, hcm, hx0, hrow0, hnc0, hmc0⟩ := hro.first
    have HST : Hid (Fr.Stop bs kk) := hst
    have HRC : Hid (Fr.recs bs kk = hd :: rs) := hrc
    have HRO : Hid (RecO w2 _ _ (hd :: rs)) := hro
    generalize hEN : Fr.ends bs kk = en at *
    generalize hCD : Fr.code (bs.drop en) = cd at *
    have hn0 : n0 ≤ 1000000 := by rw [← hrow0.1]; omega
    clear hst hro hrc
    cases hop : Wa.opens hd with
    | none =>
      have hoh := openHead_none a0 n0 c0 hd w2 hrow0 hnc0 hmc0 hn0 hop
      clear hrow0
      go_wp2_with fail
      refine hoh.mono ?_
      clear hoh
      rintro e w3 ⟨v3, qs3, rfl, hv3, hb3⟩
      obtain ⟨tu, vu, rfl⟩ := hv3.iface
      have hA3 : w3.heap[w1.heap.size]? = some (.cells #[.int .i64 n, .int .i64 0, .bool false, .int .u64 0, .slice none 0 0] 54 (0, 0)) := by rw [hb3.block _ (heap_lt HA2.out)]; exact HA2.out
      have hB3 : w3.heap[w.heap.size]? = some (.cells #[.int .i64 0, .int .i64 0, .bool false, .int .u64 0, .slice none 0 0] 54 (0, 0)) := by rw [hb3.block _ (heap_lt HBB2.out)]; exact HBB2.out
      have HBW3 : Hid (Below w.heap.size w w3) := HB2.out.trans (hb3.mono HB2.out.size)
      have HRO3 : Hid (RecO w3 _ _ (hd :: rs)) := HRO.out.later hb3
      have HA3 : Hid (_ = _) := hA3
      have HBB3 : Hid (_ = _) := hB3
      obtain ⟨x0, x1, x2, x3, x4, xf⟩ := cells5 hA3
      obtain ⟨y0, y1, y2, y3, y4, yf⟩ := cells5 hB3
      have xf0 := xf 0
      have xf1 := xf 1
      have xf2 := xf 2
      have xf3 := xf 3
      have xf4 := xf 4
      have yf0 := yf 0
      have yf1 := yf 1
      have yf2 := yf 2
      have yf3 := yf 3
      have yf4 := yf 4
      have hne1 : w1.heap.size ≠ w.heap.size := by omega
      have hne2 : w.heap.size ≠ w1.heap.size := by omega
      have q0 : Hid (w3.drew.heap[w1.heap.size]? = _) := HA3.out
      have q1 : Hid (w3.drew.heap[w.heap.size]? = _) := HBB3.out
      have hBd : Hid (Below w.heap.size w w3.drew) := below_drewN HBW3.out 1
      clear xf yf hA3 hB3 hb3 hx0
      have hne := in_bad ⟨#[104, 101, 97, 100]⟩ 3 qs3 _ w3.drew (hv3.later (below_drewN (Below.refl _ _) 1))
      clear hv3
      go_wp2
      go_region_with (go_at_call 36; refine hne.mono ?_; rintro e w4 ⟨v4, rfl, hv4, hb4⟩; obtain ⟨z0, z1, z2, z3, z4, -⟩ := cells5 (show w4.heap[w1.heap.size]? = some (.cells #[.int .i64 n, .int .i64 0, .bool false, .int .u64 0, .slice none 0 0] 54 (0, 0)) by rw [hb4.block _ (heap_lt q0.out)]; exact q0.out); have Q3 : Hid (w4.heap[w.heap.size]? = some (.cells #[.int .i64 0, .int .i64 0, .bool false, .int .u64 0, .slice none 0 0] 54 (0, 0))) := (by show w4.heap[w.heap.size]? = _; rw [hb4.block _ (heap_lt q1.out)]; exact q1.out); have u0 := (cells5 Q3.out).1; have u1 := (cells5 Q3.out).2.1; have u2 := (cells5 Q3.out).2.2.1; have u3 := (cells5 Q3.out).2.2.2.1; have u4 := (cells5 Q3.out).2.2.2.2.1; have t0 := (cells5 Q3.out).2.2.2.2.2 0; have t1 := (cells5 Q3.out).2.2.2.2.2 1; have t2 := (cells5 Q3.out).2.2.2.2.2 2; have t3 := (cells5 Q3.out).2.2.2.2.2 3; have t4 := (cells5 Q3.out).2.2.2.2.2 4; have HB3 : Hid (Below w.heap.size w w4) := hBd.out.trans (hb4.mono hBd.out.size); have HV3 : Hid (Errv w4 3 _ v4) := hv4; clear hb4 hv4)
      all_goals go_wp2
      all_goals
        obtain ⟨hW, hfr⟩ := five w4 w.heap.size _ _ _ _ _ (.int .i64 n) (.int .i64 0) (.bool false) (.int .u64 0) (.slice none 0 0) Q3.out
        have HF : Hid (Frm (· = w.heap.size) w4 (((((w4.setCell ⟨w.heap.size, 0, none⟩ (.int .i64 n)).setCell ⟨w.heap.size, 1, none⟩ (.int .i64 0)).setCell ⟨w.heap.size, 2, none⟩ (.bool false)).setCell ⟨w.heap.size, 3, none⟩ (.int .u64 0)).setCell ⟨w.heap.size, 4, none⟩ (.slice none 0 0))) := hfr
        clear u0 u1 u2 u3 u4 t0 t1 t2 t3 t4 hfr
        generalize (((((w4.setCell ⟨w.heap.size, 0, none⟩ (.int .i64 n)).setCell ⟨w.heap.size, 1, none⟩ (.int .i64 0)).setCell ⟨w.heap.size, 2, none⟩ (.bool false)).setCell ⟨w.heap.size, 3, none⟩ (.int .u64 0)).setCell ⟨w.heap.size, 4, none⟩ (.slice none 0 0)) = W at *
        obtain ⟨c0, c1, c2, c3, c4, -⟩ := cells5 hW
        clear hW
        refine bodyPost_ret (by simp [results, Tryd.results23, go_sem, c0, c1, c2, c3, c4]; try rfl) rfl ?_
        refine ⟨_, v4, 3, kk, rfl, ⟨?_, HST.out⟩, .inr ⟨by decide, _, HV3.out.frm HF.out Q3.out (by decide)⟩, by decide, HB3.out.trans (HF.out.below HB3.out.size (fun k hk => by omega))⟩
        simp only [Wa.whole, HRC.out, hop]
        rw [hn]
    | some gm =>
      obtain ⟨gn, m⟩ := gm
      have hoh := openHead_some a0 n0 c0 hd gn m w2 hrow0 hnc0 hmc0 hn0 hop
      clear hrow0
      have hcm2 : cc2 ≤ 9223372036854775807 := by unfold maxLen at hcm; omega
      clear hcm hs hkk hhd hn0 hnc0 hmc0
      by_cases hm : m ≤ rs.length
      · have hmi : (m : Int) ≤ (rs.length : Int) := by omega
        by_cases hc1 : cc2 = 1
        · have hr0 : rs.length = 0 := by omega
          subst hc1
          clear hcm2
          go_wp2_with fail
          refine hoh.mono ?_
          clear hoh
          rintro e w3 ⟨rfl, hb3⟩
          have hA3 : w3.heap[w1.heap.size]? = some (.cells #[.int .i64 n, .int .i64 0, .bool false, .int .u64 0, .slice none 0 0] 54 (0, 0)) := by rw [hb3.block _ (heap_lt HA2.out)]; exact HA2.out
          have hB3 : w3.heap[w.heap.size]? = some (.cells #[.int .i64 0, .int .i64 0, .bool false, .int .u64 0, .slice none 0 0] 54 (0, 0)) := by rw [hb3.block _ (heap_lt HBB2.out)]; exact HBB2.out
          have HBW3 : Hid (Below w.heap.size w w3) := HB2.out.trans (hb3.mono HB2.out.size)
          have HRO3 : Hid (RecO w3 _ _ (hd :: rs)) := HRO.out.later hb3
          have HA3 : Hid (_ = _) := hA3
          have HBB3 : Hid (_ = _) := hB3
          obtain ⟨x0, x1, x2, x3, x4, xf⟩ := cells5 hA3
          obtain ⟨y0, y1, y2, y3, y4, yf⟩ := cells5 hB3
          have xf0 := xf 0
          have xf1 := xf 1
          have xf2 := xf 2
          have xf3 := xf 3
          have xf4 := xf 4
          have yf0 := yf 0
          have yf1 := yf 1
          have yf2 := yf 2
          have yf3 := yf 3
          have yf4 := yf 4
          have hne1 : w1.heap.size ≠ w.heap.size := by omega
          have hne2 : w.heap.size ≠ w1.heap.size := by omega
          have q0 : Hid (w3.drew.heap[w1.heap.size]? = _) := HA3.out
          have q1 : Hid (w3.drew.heap[w.heap.size]? = _) := HBB3.out
          have hBd : Hid (Below w.heap.size w w3.drew) := below_drewN HBW3.out 1
          clear xf yf hA3 hB3 hb3 hx0
          go_wp2
          have hfA : Frm (· = w1.heap.size) w3 ((((w3.setCell ⟨w1.heap.size, 1, none⟩ (.int .i64 en)).setCell ⟨w1.heap.size, 2, none⟩ (.bool true)).setCell ⟨w1.heap.size, 3, none⟩ (.int .u64 gn)).setCell ⟨w1.heap.size, 4, none⟩ (.slice (some ⟨gg, 0, none⟩) 0 0)) := (((Frm.one _ _ _ _).trans (Frm.one _ _ _ _)).trans (Frm.one _ _ _ _)).trans (Frm.one _ _ _ _)
          have hB4 : ((((w3.setCell ⟨w1.heap.size, 1, none⟩ (.int .i64 en)).setCell ⟨w1.heap.size, 2, none⟩ (.bool true)).setCell ⟨w1.heap.size, 3, none⟩ (.int .u64 gn)).setCell ⟨w1.heap.size, 4, none⟩ (.slice (some ⟨gg, 0, none⟩) 0 0)).heap[w.heap.size]? = some (.cells #[.int .i64 0, .int .i64 0, .bool false, .int .u64 0, .slice none 0 0] 54 (0, 0)) := by rw [hfA.block _ (heap_lt HBB3.out) hne2]; exact HBB3.out
          obtain ⟨hW, hfr⟩ := five ((((w3.setCell ⟨w1.heap.size, 1, none⟩ (.int .i64 en)).setCell ⟨w1.heap.size, 2, none⟩ (.bool true)).setCell ⟨w1.heap.size, 3, none⟩ (.int .u64 gn)).setCell ⟨w1.heap.size, 4, none⟩ (.slice (some ⟨gg, 0, none⟩) 0 0)) w.heap.size _ _ _ _ _ (.int .i64 n) (.int .i64 en) (.bool true) (.int .u64 gn) (.slice (some ⟨gg, 0, none⟩) 0 0) hB4
          have HRW : Hid (RecO (((((((((w3.setCell ⟨w1.heap.size, 1, none⟩ (.int .i64 en)).setCell ⟨w1.heap.size, 2, none⟩ (.bool true)).setCell ⟨w1.heap.size, 3, none⟩ (.int .u64 gn)).setCell ⟨w1.heap.size, 4, none⟩ (.slice (some ⟨gg, 0, none⟩) 0 0)).setCell ⟨w.heap.size, 0, none⟩ (.int .i64 n)).setCell ⟨w.heap.size, 1, none⟩ (.int .i64 en)).setCell ⟨w.heap.size, 2, none⟩ (.bool true)).setCell ⟨w.heap.size, 3, none⟩ (.int .u64 gn)).setCell ⟨w.heap.size, 4, none⟩ (.slice (some ⟨gg, 0, none⟩) 0 0)) _ _ (hd :: rs)) := (HRO3.out.frm hfA HA3.out).frm hfr hB4
          have HBW : Hid (Below w.heap.size w (((((((((w3.setCell ⟨w1.heap.size, 1, none⟩ (.int .i64 en)).setCell ⟨w1.heap.size, 2, none⟩ (.bool true)).setCell ⟨w1.heap.size, 3, none⟩ (.int .u64 gn)).setCell ⟨w1.heap.size, 4, none⟩ (.slice (some ⟨gg, 0, none⟩) 0 0)).setCell ⟨w.heap.size, 0, none⟩ (.int .i64 n)).setCell ⟨w.heap.size, 1, none⟩ (.int .i64 en)).setCell ⟨w.heap.size, 2, none⟩ (.bool true)).setCell ⟨w.heap.size, 3, none⟩ (.int .u64 gn)).setCell ⟨w.heap.size, 4, none⟩ (.slice (some ⟨gg, 0, none⟩) 0 0))) := (HBW3.out.trans (hfA.below HBW3.out.size (fun k hk => by omega))).trans (hfr.below (Nat.le_trans HBW3.out.size hfA.size) (fun k hk => by omega))
          clear hfA hB4 hfr
          generalize (((((((((w3.setCell ⟨w1.heap.size, 1, none⟩ (.int .i64 en)).setCell ⟨w1.heap.size, 2, none⟩ (.bool true)).setCell ⟨w1.heap.size, 3, none⟩ (.int .u64 gn)).setCell ⟨w1.heap.size, 4, none⟩ (.slice (some ⟨gg, 0, none⟩) 0 0)).setCell ⟨w.heap.size, 0, none⟩ (.int .i64 n)).setCell ⟨w.heap.size, 1, none⟩ (.int .i64 en)).setCell ⟨w.heap.size, 2, none⟩ (.bool true)).setCell ⟨w.heap.size, 3, none⟩ (.int .u64 gn)).setCell ⟨w.heap.size, 4, none⟩ (.slice (some ⟨gg, 0, none⟩) 0 0)) = W at *
          obtain ⟨c0_, c1_, c2_, c3_, c4_, -⟩ := cells5 hW
          clear hW
          refine bodyPost_ret (by simp [results, Tryd.results23, go_sem, c0_, c1_, c2_, c3_, c4_]; try rfl) rfl ?_
          refine ⟨_, .nilIface, 0, kk, rfl, ⟨?_, HST.out⟩, .inl ⟨rfl, rfl⟩, by decide, HBW.out⟩
          simp only [Wa.whole, HRC.out, hop, if_pos hm]
          refine ⟨_, _, by rw [hn, hEN, hr0], ?_⟩
          have hrs : rs = [] := List.length_eq_zero_iff.1 hr0
          subst hrs
          exact ⟨rfl, .inl rfl⟩
        · have hc2 : 1 < cc2 := by omega
          go_wp2_with fail
          refine hoh.mono ?_
          clear hoh
          rintro e w3 ⟨rfl, hb3⟩
          have hA3 : w3.heap[w1.heap.size]? = some (.cells #[.int .i64 n, .int .i64 0, .bool false, .int .u64 0, .slice none 0 0] 54 (0, 0)) := by rw [hb3.block _ (heap_lt HA2.out)]; exact HA2.out
          have hB3 : w3.heap[w.heap.size]? = some (.cells #[.int .i64 0, .int .i64 0, .bool false, .int .u64 0, .slice none 0 0] 54 (0, 0)) := by rw [hb3.block _ (heap_lt HBB2.out)]; exact HBB2.out
          have HBW3 : Hid (Below w.heap.size w w3) := HB2.out.trans (hb3.mono HB2.out.size)
          have HRO3 : Hid (RecO w3 _ _ (hd :: rs)) := HRO.out.later hb3
          have HA3 : Hid (_ = _) := hA3
          have HBB3 : Hid (_ = _) := hB3
          obtain ⟨x0, x1, x2, x3, x4, xf⟩ := cells5 hA3
          obtain ⟨y0, y1, y2, y3, y4, yf⟩ := cells5 hB3
          have xf0 := xf 0
          have xf1 := xf 1
          have xf2 := xf 2
          have xf3 := xf 3
          have xf4 := xf 4
          have yf0 := yf 0
          have yf1 := yf 1
          have yf2 := yf 2
          have yf3 := yf 3
          have yf4 := yf 4
          have hne1 : w1.heap.size ≠ w.heap.size := by omega
          have hne2 : w.heap.size ≠ w1.heap.size := by omega
          have q0 : Hid (w3.drew.heap[w1.heap.size]? = _) := HA3.out
          have q1 : Hid (w3.drew.heap[w.heap.size]? = _) := HBB3.out
          have hBd : Hid (Below w.heap.size w w3.drew) := below_drewN HBW3.out 1
          clear xf yf hA3 hB3 hb3 hx0
          go_wp2
          have hfA : Frm (· = w1.heap.size) w3 ((((w3.setCell ⟨w1.heap.size, 1, none⟩ (.int .i64 en)).setCell ⟨w1.heap.size, 2, none⟩ (.bool true)).setCell ⟨w1.heap.size, 3, none⟩ (.int .u64 gn)).setCell ⟨w1.heap.size, 4, none⟩ (.slice (some ⟨gg, 1, none⟩) rs.length (cc2 - 1))) := (((Frm.one _ _ _ _).trans (Frm.one _ _ _ _)).trans (Frm.one _ _ _ _)).trans (Frm.one _ _ _ _)
          have hB4 : ((((w3.setCell ⟨w1.heap.size, 1, none⟩ (.int .i64 en)).setCell ⟨w1.heap.size, 2, none⟩ (.bool true)).setCell ⟨w1.heap.size, 3, none⟩ (.int .u64 gn)).setCell ⟨w1.heap.size, 4, none⟩ (.slice (some ⟨gg, 1, none⟩) rs.length (cc2 - 1))).heap[w.heap.size]? = some (.cells #[.int .i64 0, .int .i64 0, .bool false, .int .u64 0, .slice none 0 0] 54 (0, 0)) := by rw [hfA.block _ (heap_lt HBB3.out) hne2]; exact HBB3.out
          obtain ⟨hW, hfr⟩ := five ((((w3.setCell ⟨w1.heap.size, 1, none⟩ (.int .i64 en)).setCell ⟨w1.heap.size, 2, none⟩ (.bool true)).setCell ⟨w1.heap.size, 3, none⟩ (.int .u64 gn)).setCell ⟨w1.heap.size, 4, none⟩ (.slice (some ⟨gg, 1, none⟩) rs.length (cc2 - 1))) w.heap.size _ _ _ _ _ (.int .i64 n) (.int .i64 en) (.bool true) (.int .u64 gn) (.slice (some ⟨gg, 1, none⟩) rs.length (cc2 - 1)) hB4
          have HRW : Hid (RecO (((((((((w3.setCell ⟨w1.heap.size, 1, none⟩ (.int .i64 en)).setCell ⟨w1.heap.size, 2, none⟩ (.bool true)).setCell ⟨w1.heap.size, 3, none⟩ (.int .u64 gn)).setCell ⟨w1.heap.size, 4, none⟩ (.slice (some ⟨gg, 1, none⟩) rs.length (cc2 - 1))).setCell ⟨w.heap.size, 0, none⟩ (.int .i64 n)).setCell ⟨w.heap.size, 1, none⟩ (.int .i64 en)).setCell ⟨w.heap.size, 2, none⟩ (.bool true)).setCell ⟨w.heap.size, 3, none⟩ (.int .u64 gn)).setCell ⟨w.heap.size, 4, none⟩ (.slice (some ⟨gg, 1, none⟩) rs.length (cc2 - 1))) _ _ (hd :: rs)) := (HRO3.out.frm hfA HA3.out).frm hfr hB4
          have HBW : Hid (Below w.heap.size w (((((((((w3.setCell ⟨w1.heap.size, 1, none⟩ (.int .i64 en)).setCell ⟨w1.heap.size, 2, none⟩ (.bool true)).setCell ⟨w1.heap.size, 3, none⟩ (.int .u64 gn)).setCell ⟨w1.heap.size, 4, none⟩ (.slice (some ⟨gg, 1, none⟩) rs.length (cc2 - 1))).setCell ⟨w.heap.size, 0, none⟩ (.int .i64 n)).setCell ⟨w.heap.size, 1, none⟩ (.int .i64 en)).setCell ⟨w.heap.size, 2, none⟩ (.bool true)).setCell ⟨w.heap.size, 3, none⟩ (.int .u64 gn)).setCell ⟨w.heap.size, 4, none⟩ (.slice (some ⟨gg, 1, none⟩) rs.length (cc2 - 1)))) := (HBW3.out.trans (hfA.below HBW3.out.size (fun k hk => by omega))).trans (hfr.below (Nat.le_trans HBW3.out.size hfA.size) (fun k hk => by omega))
          clear hfA hB4 hfr
          generalize (((((((((w3.setCell ⟨w1.heap.size, 1, none⟩ (.int .i64 en)).setCell ⟨w1.heap.size, 2, none⟩ (.bool true)).setCell ⟨w1.heap.size, 3, none⟩ (.int .u64 gn)).setCell ⟨w1.heap.size, 4, none⟩ (.slice (some ⟨gg, 1, none⟩) rs.length (cc2 - 1))).setCell ⟨w.heap.size, 0, none⟩ (.int .i64 n)).setCell ⟨w.heap.size, 1, none⟩ (.int .i64 en)).setCell ⟨w.heap.size, 2, none⟩ (.bool true)).setCell ⟨w.heap.size, 3, none⟩ (.int .u64 gn)).setCell ⟨w.heap.size, 4, none⟩ (.slice (some ⟨gg, 1, none⟩) rs.length (cc2 - 1))) = W at *
          obtain ⟨c0_, c1_, c2_, c3_, c4_, -⟩ := cells5 hW
          clear hW
          refine bodyPost_ret (by simp [results, Tryd.results23, go_sem, c0_, c1_, c2_, c3_, c4_]; try rfl) rfl ?_
          refine ⟨_, .nilIface, 0, kk, rfl, ⟨?_, HST.out⟩, .inl ⟨rfl, rfl⟩, by decide, HBW.out⟩
          simp only [Wa.whole, HRC.out, hop, if_pos hm]
          refine ⟨_, _, by rw [hn, hEN], ?_⟩
          obtain ⟨a9, c9, e9, hrv⟩ := HRW.out.form
          simp only [List.length_cons, Value.slice.injEq] at e9
          obtain ⟨rfl, -, -⟩ := e9
          exact hrv.tail.mono HBS.out
      · have hmi : (rs.length : Int) < (m : Int) := by omega
        by_cases hc1 : cc2 = 1
        · have hr0 : rs.length = 0 := by omega
          subst hc1
          clear hcm2
          go_wp2_with fail
          refine hoh.mono ?_
          clear hoh
          rintro e w3 ⟨rfl, hb3⟩
          have hA3 : w3.heap[w1.heap.size]? = some (.cells #[.int .i64 n, .int .i64 0, .bool false, .int .u64 0, .slice none 0 0] 54 (0, 0)) := by rw [hb3.block _ (heap_lt HA2.out)]; exact HA2.out
          have hB3 : w3.heap[w.heap.size]? = some (.cells #[.int .i64 0, .int .i64 0, .bool false, .int .u64 0, .slice none 0 0] 54 (0, 0)) := by rw [hb3.block _ (heap_lt HBB2.out)]; exact HBB2.out
          have HBW3 : Hid (Below w.heap.size w w3) := HB2.out.trans (hb3.mono HB2.out.size)
          have HRO3 : Hid (RecO w3 _ _ (hd :: rs)) := HRO.out.later hb3
          have HA3 : Hid (_ = _) := hA3
          have HBB3 : Hid (_ = _) := hB3
          obtain ⟨x0, x1, x2, x3, x4, xf⟩ := cells5 hA3
          obtain ⟨y0, y1, y2, y3, y4, yf⟩ := cells5 hB3
          have xf0 := xf 0
          have xf1 := xf 1
          have xf2 := xf 2
          have xf3 := xf 3
          have xf4 := xf 4
          have yf0 := yf 0
          have yf1 := yf 1
          have yf2 := yf 2
          have yf3 := yf 3
          have yf4 := yf 4
          have hne1 : w1.heap.size ≠ w.heap.size := by omega
          have hne2 : w.heap.size ≠ w1.heap.size := by omega
          have q0 : Hid (w3.drew.heap[w1.heap.size]? = _) := HA3.out
          have q1 : Hid (w3.drew.heap[w.heap.size]? = _) := HBB3.out
          have hBd : Hid (Below w.heap.size w w3.drew) := below_drewN HBW3.out 1
          clear xf yf hA3 hB3 hb3 hx0
          have hne := new_bad ⟨#[114, 101, 99, 111, 114, 100, 115]⟩ 4 w3.drew (by omega)
          go_wp2
          go_region_with (go_at_call 32; refine hne.mono ?_; rintro e w4 ⟨v4, rfl, hv4, hb4⟩; obtain ⟨z0, z1, z2, z3, z4, -⟩ := cells5 (show w4.heap[w1.heap.size]? = some (.cells #[.int .i64 n, .int .i64 0, .bool false, .int .u64 0, .slice none 0 0] 54 (0, 0)) by rw [hb4.block _ (heap_lt q0.out)]; exact q0.out); have Q3 : Hid (w4.heap[w.heap.size]? = some (.cells #[.int .i64 0, .int .i64 0, .bool false, .int .u64 0, .slice none 0 0] 54 (0, 0))) := (by show w4.heap[w.heap.size]? = _; rw [hb4.block _ (heap_lt q1.out)]; exact q1.out); have u0 := (cells5 Q3.out).1; have u1 := (cells5 Q3.out).2.1; have u2 := (cells5 Q3.out).2.2.1; have u3 := (cells5 Q3.out).2.2.2.1; have u4 := (cells5 Q3.out).2.2.2.2.1; have t0 := (cells5 Q3.out).2.2.2.2.2 0; have t1 := (cells5 Q3.out).2.2.2.2.2 1; have t2 := (cells5 Q3.out).2.2.2.2.2 2; have t3 := (cells5 Q3.out).2.2.2.2.2 3; have t4 := (cells5 Q3.out).2.2.2.2.2 4; have HB3 : Hid (Below w.heap.size w w4) := hBd.out.trans (hb4.mono hBd.out.size); have HV3 : Hid (Errv w4 4 _ v4) := hv4; clear hb4 hv4)
          all_goals go_wp2
          all_goals
            obtain ⟨hW, hfr⟩ := five w4 w.heap.size _ _ _ _ _ (.int .i64 n) (.int .i64 0) (.bool false) (.int .u64 0) (.slice none 0 0) Q3.out
            have HF : Hid (Frm (· = w.heap.size) w4 (((((w4.setCell ⟨w.heap.size, 0, none⟩ (.int .i64 n)).setCell ⟨w.heap.size, 1, none⟩ (.int .i64 0)).setCell ⟨w.heap.size, 2, none⟩ (.bool false)).setCell ⟨w.heap.size, 3, none⟩ (.int .u64 0)).setCell ⟨w.heap.size, 4, none⟩ (.slice none 0 0))) := hfr
            clear u0 u1 u2 u3 u4 t0 t1 t2 t3 t4 hfr
            generalize (((((w4.setCell ⟨w.heap.size, 0, none⟩ (.int .i64 n)).setCell ⟨w.heap.size, 1, none⟩ (.int .i64 0)).setCell ⟨w.heap.size, 2, none⟩ (.bool false)).setCell ⟨w.heap.size, 3, none⟩ (.int .u64 0)).setCell ⟨w.heap.size, 4, none⟩ (.slice none 0 0)) = W at *
            obtain ⟨c0, c1, c2, c3, c4, -⟩ := cells5 hW
            clear hW
            refine bodyPost_ret (by simp [results, Tryd.results23, go_sem, c0, c1, c2, c3, c4]; try rfl) rfl ?_
            refine ⟨_, v4, 4, kk, rfl, ⟨?_, HST.out⟩, .inr ⟨by decide, _, HV3.out.frm HF.out Q3.out (by decide)⟩, by decide, HB3.out.trans (HF.out.below HB3.out.size (fun k hk => by omega))⟩
            simp only [Wa.whole, HRC.out, hop, if_neg hm]
            rw [hn]
        · have hc2 : 1 < cc2 := by omega
          go_wp2_with fail
          refine hoh.mono ?_
          clear hoh
          rintro e w3 ⟨rfl, hb3⟩
          have hA3 : w3.heap[w1.heap.size]? = some (.cells #[.int .i64 n, .int .i64 0, .bool false, .int .u64 0, .slice none 0 0] 54 (0, 0)) := by rw [hb3.block _ (heap_lt HA2.out)]; exact HA2.out
          have hB3 : w3.heap[w.heap.size]? = some (.cells #[.int .i64 0, .int .i64 0, .bool false, .int .u64 0, .slice none 0 0] 54 (0, 0)) := by rw [hb3.block _ (heap_lt HBB2.out)]; exact HBB2.out
          have HBW3 : Hid (Below w.heap.size w w3) := HB2.out.trans (hb3.mono HB2.out.size)
          have HRO3 : Hid (RecO w3 _ _ (hd :: rs)) := HRO.out.later hb3
          have HA3 : Hid (_ = _) := hA3
          have HBB3 : Hid (_ = _) := hB3
          obtain ⟨x0, x1, x2, x3, x4, xf⟩ := cells5 hA3
          obtain ⟨y0, y1, y2, y3, y4, yf⟩ := cells5 hB3
          have xf0 := xf 0
          have xf1 := xf 1
          have xf2 := xf 2
          have xf3 := xf 3
          have xf4 := xf 4
          have yf0 := yf 0
          have yf1 := yf 1
          have yf2 := yf 2
          have yf3 := yf 3
          have yf4 := yf 4
          have hne1 : w1.heap.size ≠ w.heap.size := by omega
          have hne2 : w.heap.size ≠ w1.heap.size := by omega
          have q0 : Hid (w3.drew.heap[w1.heap.size]? = _) := HA3.out
          have q1 : Hid (w3.drew.heap[w.heap.size]? = _) := HBB3.out
          have hBd : Hid (Below w.heap.size w w3.drew) := below_drewN HBW3.out 1
          clear xf yf hA3 hB3 hb3 hx0
          have hne := new_bad ⟨#[114, 101, 99, 111, 114, 100, 115]⟩ 4 w3.drew (by omega)
          go_wp2
          go_region_with (go_at_call 32; refine hne.mono ?_; rintro e w4 ⟨v4, rfl, hv4, hb4⟩; obtain ⟨z0, z1, z2, z3, z4, -⟩ := cells5 (show w4.heap[w1.heap.size]? = some (.cells #[.int .i64 n, .int .i64 0, .bool false, .int .u64 0, .slice none 0 0] 54 (0, 0)) by rw [hb4.block _ (heap_lt q0.out)]; exact q0.out); have Q3 : Hid (w4.heap[w.heap.size]? = some (.cells #[.int .i64 0, .int .i64 0, .bool false, .int .u64 0, .slice none 0 0] 54 (0, 0))) := (by show w4.heap[w.heap.size]? = _; rw [hb4.block _ (heap_lt q1.out)]; exact q1.out); have u0 := (cells5 Q3.out).1; have u1 := (cells5 Q3.out).2.1; have u2 := (cells5 Q3.out).2.2.1; have u3 := (cells5 Q3.out).2.2.2.1; have u4 := (cells5 Q3.out).2.2.2.2.1; have t0 := (cells5 Q3.out).2.2.2.2.2 0; have t1 := (cells5 Q3.out).2.2.2.2.2 1; have t2 := (cells5 Q3.out).2.2.2.2.2 2; have t3 := (cells5 Q3.out).2.2.2.2.2 3; have t4 := (cells5 Q3.out).2.2.2.2.2 4; have HB3 : Hid (Below w.heap.size w w4) := hBd.out.trans (hb4.mono hBd.out.size); have HV3 : Hid (Errv w4 4 _ v4) := hv4; clear hb4 hv4)
          all_goals go_wp2
          all_goals
            obtain ⟨hW, hfr⟩ := five w4 w.heap.size _ _ _ _ _ (.int .i64 n) (.int .i64 0) (.bool false) (.int .u64 0) (.slice none 0 0) Q3.out
            have HF : Hid (Frm (· = w.heap.size) w4 (((((w4.setCell ⟨w.heap.size, 0, none⟩ (.int .i64 n)).setCell ⟨w.heap.size, 1, none⟩ (.int .i64 0)).setCell ⟨w.heap.size, 2, none⟩ (.bool false)).setCell ⟨w.heap.size, 3, none⟩ (.int .u64 0)).setCell ⟨w.heap.size, 4, none⟩ (.slice none 0 0))) := hfr
            clear u0 u1 u2 u3 u4 t0 t1 t2 t3 t4 hfr
            generalize (((((w4.setCell ⟨w.heap.size, 0, none⟩ (.int .i64 n)).setCell ⟨w.heap.size, 1, none⟩ (.int .i64 0)).setCell ⟨w.heap.size, 2, none⟩ (.bool false)).setCell ⟨w.heap.size, 3, none⟩ (.int .u64 0)).setCell ⟨w.heap.size, 4, none⟩ (.slice none 0 0)) = W at *
            obtain ⟨c0, c1, c2, c3, c4, -⟩ := cells5 hW
            clear hW
            refine bodyPost_ret (by simp [results, Tryd.results23, go_sem, c0, c1, c2, c3, c4]; try rfl) rfl ?_
            refine ⟨_, v4, 4, kk, rfl, ⟨?_, HST.out⟩, .inr ⟨by decide, _, HV3.out.frm HF.out Q3.out (by decide)⟩, by decide, HB3.out.trans (HF.out.below HB3.out.size (fun k hk => by omega))⟩
            simp only [Wa.whole, HRC.out, hop, if_neg hm]
            rw [hn]

end Go.Proofs.YtmlpneiadkngaaaDoor
