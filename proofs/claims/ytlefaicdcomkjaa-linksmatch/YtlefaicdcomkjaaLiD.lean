/- The program's Add: a contract. -/
import Derived.Test.YtlefaicdcomkjaaLiC
namespace Go.Proofs.Ytlefaicdcomkjaa
open Go Go.RowKit
set_option linter.unusedVariables false
set_option linter.unusedSimpArgs false

def rB (e : Ev) : Bool := rentry e.ep e.kd e.tid e.plain e.l1 e.l2 e.id e.code
def addE (L : List Ev) (e : Ev) : Int := if rB e = false ∨ e.ep < epL L L.length then 1 else if 400 ≤ L.length then 9 else 0
/-- what stays: all but a log's block, and the block of its entries -/
structure Kp (w w' : World) (g : Nat) (ob : Option Nat) : Prop where
  os : w'.os = w.os
  tape : w'.tape = w.tape
  output : w'.output = w.output
  size : w.heap.size ≤ w'.heap.size
  block : ∀ k, k < w.heap.size → k ≠ g → some k ≠ ob → w'.heap[k]? = w.heap[k]?
theorem Kp.of {w w' : World} {g : Nat} {ob : Option Nat} (h : Below w.heap.size w w') : Kp w w' g ob := ⟨h.os, h.tape, h.output, h.size, fun k hk _ _ => h.block k hk⟩
theorem Kp.below {w w' : World} {g B : Nat} {ob : Option Nat} (h : Kp w w' g ob) (h1 : B ≤ w.heap.size) (h2 : B ≤ g) (h3 : ∀ k, ob = some k → B ≤ k) : Below B w w' := ⟨h.os, h.tape, h.output, h.size, fun k hk => h.block k (by omega) (by omega) (fun e => by have := h3 k e.symm; omega)⟩
theorem owns_keep {w w' : World} {g : Nat} {ob : Option Nat} (hk : Kp w w' g ob) {b e n m : Nat} {v : Value} {xs : List Value} (h : w.ownsRow b e n v m xs) (ha : ∀ k, v.ownBlock = some k → k ≠ g ∧ some k ≠ ob) : w'.ownsRow b e n v m xs := by
  obtain ⟨h1, h2⟩ := h
  refine ⟨h1, ?_⟩
  rcases h2 with h2 | ⟨q, cap, cur, rfl, hq, hh, hn⟩
  · exact .inl h2
  · obtain ⟨e1, e2⟩ := ha q rfl
    exact .inr ⟨q, cap, cur, rfl, hq, (hk.block q (Array.getElem?_eq_some_iff.1 hh).1 e1 e2).trans hh, hn⟩
theorem owns_tag2 {w : World} {b e n m : Nat} {v : Value} {xs : List Value} (h : w.ownsRow b e n v m xs) : ∀ k, v.ownBlock = some k → tagOf w k = some e := by
  intro k hk
  rcases h.2 with ⟨rfl, _⟩ | ⟨q, cap, cur, rfl, hq, hh, hn⟩
  · simp [Value.ownBlock] at hk
  · simp [Value.ownBlock] at hk
    rw [← hk]
    exact tagOf_heap hh
theorem Lg.tags {w : World} {g : Nat} {ob : Option Nat} {L : List Ev} (h : Lg w g ob L) : tagOf w g = some 77 ∧ ∀ k, ob = some k → tagOf w k = some 45 := by
  obtain ⟨v, h1, h2, h3⟩ := h.box
  exact ⟨tagOf_heap h1, fun k hk => owns_tag2 h2 k (h3.trans hk)⟩
theorem Ev.mem.keep {w w' : World} {g : Nat} {ob : Option Nat} {L : List Ev} {e : Ev} (h : e.mem w) (hl : Lg w g ob L) (hk : Kp w w' g ob) : e.mem w' := by
  obtain ⟨t1, t2⟩ := hl.tags
  refine ⟨owns_keep hk h.r (fun k hb => ?_), owns_keep hk h.w (fun k hb => ?_), h.f, h.h1, h.h2⟩
  · have ht := owns_tag2 h.r k hb
    exact ⟨fun e => (by rw [e, t1] at ht; cases ht), fun e => (by rw [t2 k e.symm] at ht; cases ht)⟩
  · have ht := owns_tag2 h.w k hb
    exact ⟨fun e => (by rw [e, t1] at ht; cases ht), fun e => (by rw [t2 k e.symm] at ht; cases ht)⟩
theorem Lg.keep {w w' : World} {g h : Nat} {ob ob2 : Option Nat} {L M : List Ev} (hl : Lg w g ob L) (hm : Lg w h ob2 M) (hk : Kp w w' g ob) (hne : h ≠ g) (ho : ∀ k, ob2 = some k → ob ≠ some k) : Lg w' h ob2 M := by
  obtain ⟨t1, t2⟩ := hl.tags
  obtain ⟨v, h1, h2, h3⟩ := hm.box
  have th := hm.tags.1
  refine ⟨⟨v, (hk.block h hm.lt hne (fun e => by rw [t2 h e.symm] at th; cases th)).trans h1, owns_keep hk h2 (fun k hb => ?_), h3⟩, fun e he => (hm.mem e he).keep hl hk⟩
  have ht := owns_tag2 h2 k hb
  exact ⟨fun e => (by rw [e, t1] at ht; cases ht), fun e => ho k (h3.symm.trans hb) e.symm⟩
theorem tag_lt {w : World} {k t : Nat} (h : tagOf w k = some t) : k < w.heap.size := by
  by_cases hl : k < w.heap.size
  · exact hl
  · rw [tagOf, Array.getElem?_eq_none (by omega)] at h
    cases h
theorem rows_one {w : World} {b e n m : Nat} {v : Value} {xs : List Value} (h : w.ownsRow b e n v m xs) : v.oneCell' = true := by
  rcases h.2 with ⟨rfl, _⟩ | ⟨q, cap, cur, rfl, _⟩ <;> rfl
theorem Ev.one {w : World} {e : Ev} (h : e.mem w) : ∀ u ∈ e.cells, u.oneCell' = true := by
  intro u hu
  simp only [Ev.cells, List.mem_cons, List.not_mem_nil, or_false] at hu
  rcases hu with rfl | rfl | rfl | rfl | rfl | rfl | rfl | rfl | rfl | rfl
  all_goals first | rfl | exact rows_one h.r | exact rows_one h.w
theorem evs_one' {w : World} {L : List Ev} (h : ∀ e ∈ L, e.mem w) : ∀ u ∈ L.flatMap Ev.cells, u.oneCell' = true := by
  intro u hu
  obtain ⟨x, hx, hu⟩ := List.mem_flatMap.1 hu
  exact Ev.one (h x hx) u hu
/-- one more entry behind all -/
theorem Lg.append {w w1 w2 : World} {g : Nat} {ob : Option Nat} {L : List Ev} {e : Ev} {v v2 : Value} {o : Obj} (h : Lg w1 g ob L) (he : e.mem w1) (hv : w1.heap[g]? = some (.cells #[v] 77 (0, 0))) (hvo : v.ownBlock = ob)
    (hg : (w1.alloc o).grownBy w2 v.ownBlock) (ho : w2.ownsRow 0 45 10 v2 (L ++ [e]).length ((L ++ [e]).flatMap Ev.cells)) (hb : v2.ownBlock = v.ownBlock ∨ v2.ownBlock = some (w1.alloc o).heap.size) (hB : Below w.heap.size w w1) (hgl : g < w.heap.size) :
    w2.heap[g]? = some (.cells #[v] 77 (0, 0)) ∧ Lg (w2.setCell ⟨g, 0, none⟩ v2) g v2.ownBlock (L ++ [e]) ∧ Kp w (w2.setCell ⟨g, 0, none⟩ v2) g ob ∧ (v2.ownBlock = ob ∨ ∃ k, v2.ownBlock = some k ∧ w.heap.size ≤ k) := by
  obtain ⟨t1, t2⟩ := h.tags
  have k1 : Kp w1 w2 g ob := ⟨hg.os, hg.tape, hg.output, by have := hg.size; simp at this; omega, fun k hk h1 h2 => by rw [hg.block k (by simp; omega) (by rw [hvo]; exact h2), heap_alloc_old _ _ hk]⟩
  have hgb : w2.heap[g]? = some (.cells #[v] 77 (0, 0)) := by
    rw [hg.block g (by simp; have := h.lt; omega) (fun e1 => by rw [hvo] at e1; rw [t2 g e1.symm] at t1; cases t1), heap_alloc_old _ _ h.lt]
    exact hv
  have k2 : Kp w1 (w2.setCell ⟨g, 0, none⟩ v2) g ob := ⟨k1.os, k1.tape, k1.output, by have := k1.size; simpa [World.setCell] using this, fun k hk h1 h2 => (Below.heap_setCell _ _ _ _ h1).trans (k1.block k hk h1 h2)⟩
  refine ⟨hgb, ⟨⟨v2, heap_setCell_same w2 g 0 _ 77 v2 hgb, ?_, rfl⟩, fun x hx => ?_⟩, ⟨k2.os.trans hB.os, k2.tape.trans hB.tape, k2.output.trans hB.output, Nat.le_trans hB.size k2.size, fun k hk h1 h2 => (k2.block k (Nat.lt_of_lt_of_le hk hB.size) h1 h2).trans (hB.block k hk)⟩, ?_⟩
  · exact (Fr.setCell (base := 0) (T := [77]) (a := ⟨g, 0, none⟩) v2 (Nat.zero_le _) (by simp) (tagOf_heap hgb)).owns ho (by decide)
  · rcases List.mem_append.1 hx with h1 | h1
    · exact (h.mem x h1).keep h k2
    · simp at h1
      subst h1
      exact he.keep h k2
  · rcases hb with hb | hb
    · exact .inl (hb.trans hvo)
    · exact .inr ⟨_, hb, by have := hB.size; simp; omega⟩
set_option maxRecDepth 100000 in
set_option maxHeartbeats 8000000 in
theorem add_wrong (g : Nat) (ob : Option Nat) (L : List Ev) (ep kd t1 t2 : Int) (pl : Bool) (a1 : Option Addr) (n1 c1 : Nat) (a2 : Option Addr) (n2 c2 : Nat) (i1 i2 cd : Int) (l1 : List Rdv) (l2 : List Wrv) (w : World) (h : Lg w g ob L) (he : Ev.mem w (⟨ep, kd, (t1, t2), pl, .slice a1 n1 c1, .slice a2 n2 c2, (i1, i2), cd, l1, l2⟩ : Ev)) (e1 : n1 = l1.length) (e2 : n2 = l2.length) (hl : L.length ≤ 1000) (hr : rB (⟨ep, kd, (t1, t2), pl, .slice a1 n1 c1, .slice a2 n2 c2, (i1, i2), cd, l1, l2⟩ : Ev) = false) :
    Calls Try.prog 26 #[.pointer (some ⟨g, 0, none⟩), .agg #[.int .u64 ep, .int .i64 kd, .int .i64 t1, .int .u64 t2, .bool pl, .slice a1 n1 c1, .slice a2 n2 c2, .int .i64 i1, .int .u64 i2, .int .i64 cd]] w fun e w' => e = .returned (.int .i64 1) ∧ Below w.heap.size w w' := by
  have HRB : Hid (rentry ep kd (t1, t2) pl l1 l2 (i1, i2) cd = false) := hr
  clear hr
  have hb0 : Below w.heap.size w (w.alloc (.cells #[.int .u64 ep, .int .i64 kd, .int .i64 t1, .int .u64 t2, .bool pl, .slice a1 n1 c1, .slice a2 n2 c2, .int .i64 i1, .int .u64 i2, .int .i64 cd] 45)) := (Below.refl _ _).alloc (Nat.le_refl _) _
  have hn := heap_alloc_new w (.cells #[.int .u64 ep, .int .i64 kd, .int .i64 t1, .int .u64 t2, .bool pl, .slice a1 n1 c1, .slice a2 n2 c2, .int .i64 i1, .int .u64 i2, .int .i64 cd] 45)
  have HL : Hid (Lg (w.alloc (.cells #[.int .u64 ep, .int .i64 kd, .int .i64 t1, .int .u64 t2, .bool pl, .slice a1 n1 c1, .slice a2 n2 c2, .int .i64 i1, .int .u64 i2, .int .i64 cd] 45)) g ob L) := h.later hb0
  have HM : Hid (Ev.mem (w.alloc (.cells #[.int .u64 ep, .int .i64 kd, .int .i64 t1, .int .u64 t2, .bool pl, .slice a1 n1 c1, .slice a2 n2 c2, .int .i64 i1, .int .u64 i2, .int .i64 cd] 45)) (⟨ep, kd, (t1, t2), pl, .slice a1 n1 c1, .slice a2 n2 c2, (i1, i2), cd, l1, l2⟩ : Ev)) := he.later hb0
  have HE1 : Hid (n1 = l1.length) := e1
  have HE2 : Hid (n2 = l2.length) := e2
  have HGL : Hid (g < w.heap.size) := h.lt
  clear h he e1 e2
  go_enter Try.func26, Try.ntmps26
  go_upto_region 3 with fail
  generalize hv : w.alloc (.cells #[.int .u64 ep, .int .i64 kd, .int .i64 t1, .int .u64 t2, .bool pl, .slice a1 n1 c1, .slice a2 n2 c2, .int .i64 i1, .int .u64 i2, .int .i64 cd] 45) = v1 at *
  clear hv
  generalize hp : w.heap.size = p at *
  have HP : Hid (w.heap.size = p) := hp
  have HB : Hid (Below p w v1) := hb0
  have HN : Hid (v1.heap[p]? = some (.cells #[.int .u64 ep, .int .i64 kd, .int .i64 t1, .int .u64 t2, .bool pl, .slice a1 n1 c1, .slice a2 n2 c2, .int .i64 i1, .int .u64 i2, .int .i64 cd] 45)) := hn
  clear hb0 hn hp
  refine wp_region_noPanic ?_
  refine wp_region_held_drew (S := (fun w' => w'.cell? ⟨p, 0, none⟩ = some (.int .u64 ep) ∧ w'.cell? ⟨p, 1, none⟩ = some (.int .i64 kd) ∧ w'.cell? ⟨p, 2, none⟩ = some (.int .i64 t1) ∧ w'.cell? ⟨p, 3, none⟩ = some (.int .u64 t2) ∧ w'.cell? ⟨p, 4, none⟩ = some (.bool pl) ∧ w'.cell? ⟨p, 5, none⟩ = some (.slice a1 n1 c1) ∧ w'.cell? ⟨p, 6, none⟩ = some (.slice a2 n2 c2) ∧ w'.cell? ⟨p, 7, none⟩ = some (.int .i64 i1) ∧ w'.cell? ⟨p, 8, none⟩ = some (.int .u64 i2) ∧ w'.cell? ⟨p, 9, none⟩ = some (.int .i64 cd))) (by kernel_rfl) ?_ (fun hHeld => ?_)
  · exact ten_cells HN.out
  refine held_take (i := 0) (d := 9) (v := ?_) rfl rfl (by kernel_rfl) (by kernel_rfl) (by kernel_rfl) (fun _ _ _ h => h) (Or.inl ⟨by rfl, ?_⟩) hHeld ?_
  rotate_left
  · (intro w hSw; (try dsimp only at hSw); go_simp; all_goals (with_reducible rfl))
  try simp only [Act.put, List.setIfInBounds_toArray, List.set_cons_zero, List.set_cons_succ]
  refine wpAnyH_ready (rs := [1]) (by kernel_rfl) (by simp) ?_
  refine AllReadyH.cons rfl (fun K hK => ?_) AllReadyH.nil
  go_simp
  have q := rightE_any ep kd (t1, t2) pl 0 a1 n1 c1 a2 n2 c2 l1 l2 (i1, i2) cd v1.drew (Tx.later ⟨HM.out.r, HM.out.w, HM.out.f, HM.out.h1, HM.out.h2, HE1.out, HE2.out⟩ (Below.refl _ _).drew)
  rw [HRB.out] at q
  refine q.mono ?_
  clear q
  rintro e v2 ⟨rfl, hb2⟩
  have HN2 : Hid (v2.heap[p]? = some (.cells #[.int .u64 ep, .int .i64 kd, .int .i64 t1, .int .u64 t2, .bool pl, .slice a1 n1 c1, .slice a2 n2 c2, .int .i64 i1, .int .u64 i2, .int .i64 cd] 45)) := keepc hb2 (show v1.drew.heap[p]? = _ from HN.out)
  have hpl : p < v1.heap.size := (Array.getElem?_eq_some_iff.1 HN.out).1
  have HB2 : Hid (Below p w v2) := HB.out.drew.trans (hb2.mono (by simp only [World.size_drew]; omega))
  have HL2 : Hid (Lg v2 g ob L) := (HL.out.later (Below.refl _ _).drew).later hb2
  have HM2 : Hid (Ev.mem v2 (⟨ep, kd, (t1, t2), pl, .slice a1 n1 c1, .slice a2 n2 c2, (i1, i2), cd, l1, l2⟩ : Ev)) := (HM.out.later (Below.refl _ _).drew).later hb2
  clear hb2 HN HB HL HM
  go_wp2_with fail
  refine hK.out _ _ ?_ (fun hHeld => ?_)
  · exact ten_cells HN2.out
  clear hK K
  try simp only [Act.put, List.setIfInBounds_toArray, List.set_cons_zero, List.set_cons_succ]
  refine held_take (i := 2) (d := 11) (v := ?_) rfl rfl (by kernel_rfl) (by kernel_rfl) (by kernel_rfl) (fun _ _ _ h => h) (Or.inl ⟨by rfl, ?_⟩) hHeld ?_
  rotate_left
  · (intro w hSw; (try dsimp only at hSw); go_simp; all_goals (with_reducible rfl))
  try simp only [Act.put, List.setIfInBounds_toArray, List.set_cons_zero, List.set_cons_succ]
  refine held_take (i := 3) (d := 12) (v := ?_) rfl rfl (by kernel_rfl) (by kernel_rfl) (by kernel_rfl) (fun _ _ _ h => h) (Or.inl ⟨by rfl, ?_⟩) hHeld ?_
  rotate_left
  · (intro w hSw; (try dsimp only at hSw); go_simp; all_goals (with_reducible rfl))
  try simp only [Act.put, List.setIfInBounds_toArray, List.set_cons_zero, List.set_cons_succ]
  refine held_take (i := 4) (d := 13) (v := undef) rfl rfl (by kernel_rfl) (by kernel_rfl) (by kernel_rfl) (fun _ _ _ h => h) (Or.inr ⟨by rfl, rfl⟩) hHeld ?_
  try simp only [Act.put, List.setIfInBounds_toArray, List.set_cons_zero, List.set_cons_succ]
  refine held_take (i := 5) (d := 14) (v := undef) rfl rfl (by kernel_rfl) (by kernel_rfl) (by kernel_rfl) (fun _ _ _ h => h) (Or.inr ⟨by rfl, rfl⟩) hHeld ?_
  try simp only [Act.put, List.setIfInBounds_toArray, List.set_cons_zero, List.set_cons_succ]
  refine held_take (i := 6) (d := 15) (v := undef) rfl rfl (by kernel_rfl) (by kernel_rfl) (by kernel_rfl) (fun _ _ _ h => h) (Or.inr ⟨by rfl, rfl⟩) hHeld ?_
  try simp only [Act.put, List.setIfInBounds_toArray, List.set_cons_zero, List.set_cons_succ]
  refine held_take (i := 7) (d := 16) (v := undef) rfl rfl (by kernel_rfl) (by kernel_rfl) (by kernel_rfl) (fun _ _ _ h => h) (Or.inr ⟨by rfl, rfl⟩) hHeld ?_
  try simp only [Act.put, List.setIfInBounds_toArray, List.set_cons_zero, List.set_cons_succ]
  refine held_take (i := 8) (d := 17) (v := undef) rfl rfl (by kernel_rfl) (by kernel_rfl) (by kernel_rfl) (fun _ _ _ h => h) (Or.inr ⟨by rfl, rfl⟩) hHeld ?_
  try simp only [Act.put, List.setIfInBounds_toArray, List.set_cons_zero, List.set_cons_succ]
  refine held_take (i := 9) (d := 18) (v := undef) rfl rfl (by kernel_rfl) (by kernel_rfl) (by kernel_rfl) (fun _ _ _ h => h) (Or.inr ⟨by rfl, rfl⟩) hHeld ?_
  try simp only [Act.put, List.setIfInBounds_toArray, List.set_cons_zero, List.set_cons_succ]
  refine held_take (i := 10) (d := 19) (v := undef) rfl rfl (by kernel_rfl) (by kernel_rfl) (by kernel_rfl) (fun _ _ _ h => h) (Or.inr ⟨by rfl, rfl⟩) hHeld ?_
  try simp only [Act.put, List.setIfInBounds_toArray, List.set_cons_zero, List.set_cons_succ]
  refine held_take (i := 11) (d := 20) (v := ?_) rfl rfl (by kernel_rfl) (by kernel_rfl) (by kernel_rfl) (fun _ _ _ h => h) (Or.inl ⟨by rfl, ?_⟩) hHeld ?_
  rotate_left
  · (intro w hSw; (try dsimp only at hSw); go_simp; all_goals (with_reducible rfl))
  try simp only [Act.put, List.setIfInBounds_toArray, List.set_cons_zero, List.set_cons_succ]
  refine held_take (i := 12) (d := 8) (v := ?_) rfl rfl (by kernel_rfl) (by kernel_rfl) (by kernel_rfl) (fun _ _ _ h => h) (Or.inl ⟨by rfl, ?_⟩) hHeld ?_
  rotate_left
  · (intro w hSw; (try dsimp only at hSw); go_simp; all_goals (with_reducible rfl))
  try simp only [Act.put, List.setIfInBounds_toArray, List.set_cons_zero, List.set_cons_succ]
  refine wpAnyH_done (by kernel_rfl) ?_ _
  refine NoPanic.normal ?_
  go_wp2
  go_ret
  exact ⟨rfl, by rw [HP.out]; exact HB2.out⟩
set_option maxRecDepth 100000 in
set_option maxHeartbeats 8000000 in
theorem add_stale (g : Nat) (ob : Option Nat) (L : List Ev) (ep kd t1 t2 : Int) (pl : Bool) (a1 : Option Addr) (n1 c1 : Nat) (a2 : Option Addr) (n2 c2 : Nat) (i1 i2 cd : Int) (l1 : List Rdv) (l2 : List Wrv) (w : World) (last : Int) (h : Lg w g ob L) (he : Ev.mem w (⟨ep, kd, (t1, t2), pl, .slice a1 n1 c1, .slice a2 n2 c2, (i1, i2), cd, l1, l2⟩ : Ev)) (e1 : n1 = l1.length) (e2 : n2 = l2.length) (hl : L.length ≤ 1000) (hr : rB (⟨ep, kd, (t1, t2), pl, .slice a1 n1 c1, .slice a2 n2 c2, (i1, i2), cd, l1, l2⟩ : Ev) = true) (hlast : epL L L.length = last) (hs : ep < last) :
    Calls Try.prog 26 #[.pointer (some ⟨g, 0, none⟩), .agg #[.int .u64 ep, .int .i64 kd, .int .i64 t1, .int .u64 t2, .bool pl, .slice a1 n1 c1, .slice a2 n2 c2, .int .i64 i1, .int .u64 i2, .int .i64 cd]] w fun e w' => e = .returned (.int .i64 1) ∧ Below w.heap.size w w' := by
  have HRB : Hid (rentry ep kd (t1, t2) pl l1 l2 (i1, i2) cd = true) := hr
  have HEP : Hid (epL L (L.length : Nat) = last) := hlast
  have hd : decide (ep < last) = true := by simpa using hs
  clear hr hlast
  have hb0 : Below w.heap.size w (w.alloc (.cells #[.int .u64 ep, .int .i64 kd, .int .i64 t1, .int .u64 t2, .bool pl, .slice a1 n1 c1, .slice a2 n2 c2, .int .i64 i1, .int .u64 i2, .int .i64 cd] 45)) := (Below.refl _ _).alloc (Nat.le_refl _) _
  have hn := heap_alloc_new w (.cells #[.int .u64 ep, .int .i64 kd, .int .i64 t1, .int .u64 t2, .bool pl, .slice a1 n1 c1, .slice a2 n2 c2, .int .i64 i1, .int .u64 i2, .int .i64 cd] 45)
  have HL : Hid (Lg (w.alloc (.cells #[.int .u64 ep, .int .i64 kd, .int .i64 t1, .int .u64 t2, .bool pl, .slice a1 n1 c1, .slice a2 n2 c2, .int .i64 i1, .int .u64 i2, .int .i64 cd] 45)) g ob L) := h.later hb0
  have HM : Hid (Ev.mem (w.alloc (.cells #[.int .u64 ep, .int .i64 kd, .int .i64 t1, .int .u64 t2, .bool pl, .slice a1 n1 c1, .slice a2 n2 c2, .int .i64 i1, .int .u64 i2, .int .i64 cd] 45)) (⟨ep, kd, (t1, t2), pl, .slice a1 n1 c1, .slice a2 n2 c2, (i1, i2), cd, l1, l2⟩ : Ev)) := he.later hb0
  have HE1 : Hid (n1 = l1.length) := e1
  have HE2 : Hid (n2 = l2.length) := e2
  have HGL : Hid (g < w.heap.size) := h.lt
  clear h he e1 e2
  go_enter Try.func26, Try.ntmps26
  go_upto_region 3 with fail
  generalize hv : w.alloc (.cells #[.int .u64 ep, .int .i64 kd, .int .i64 t1, .int .u64 t2, .bool pl, .slice a1 n1 c1, .slice a2 n2 c2, .int .i64 i1, .int .u64 i2, .int .i64 cd] 45) = v1 at *
  clear hv
  generalize hp : w.heap.size = p at *
  have HP : Hid (w.heap.size = p) := hp
  have HB : Hid (Below p w v1) := hb0
  have HN : Hid (v1.heap[p]? = some (.cells #[.int .u64 ep, .int .i64 kd, .int .i64 t1, .int .u64 t2, .bool pl, .slice a1 n1 c1, .slice a2 n2 c2, .int .i64 i1, .int .u64 i2, .int .i64 cd] 45)) := hn
  clear hb0 hn hp
  refine wp_region_noPanic ?_
  refine wp_region_held_drew (S := (fun w' => w'.cell? ⟨p, 0, none⟩ = some (.int .u64 ep) ∧ w'.cell? ⟨p, 1, none⟩ = some (.int .i64 kd) ∧ w'.cell? ⟨p, 2, none⟩ = some (.int .i64 t1) ∧ w'.cell? ⟨p, 3, none⟩ = some (.int .u64 t2) ∧ w'.cell? ⟨p, 4, none⟩ = some (.bool pl) ∧ w'.cell? ⟨p, 5, none⟩ = some (.slice a1 n1 c1) ∧ w'.cell? ⟨p, 6, none⟩ = some (.slice a2 n2 c2) ∧ w'.cell? ⟨p, 7, none⟩ = some (.int .i64 i1) ∧ w'.cell? ⟨p, 8, none⟩ = some (.int .u64 i2) ∧ w'.cell? ⟨p, 9, none⟩ = some (.int .i64 cd))) (by kernel_rfl) ?_ (fun hHeld => ?_)
  · exact ten_cells HN.out
  refine held_take (i := 0) (d := 9) (v := ?_) rfl rfl (by kernel_rfl) (by kernel_rfl) (by kernel_rfl) (fun _ _ _ h => h) (Or.inl ⟨by rfl, ?_⟩) hHeld ?_
  rotate_left
  · (intro w hSw; (try dsimp only at hSw); go_simp; all_goals (with_reducible rfl))
  try simp only [Act.put, List.setIfInBounds_toArray, List.set_cons_zero, List.set_cons_succ]
  refine wpAnyH_ready (rs := [1]) (by kernel_rfl) (by simp) ?_
  refine AllReadyH.cons rfl (fun K hK => ?_) AllReadyH.nil
  go_simp
  have q := rightE_any ep kd (t1, t2) pl 0 a1 n1 c1 a2 n2 c2 l1 l2 (i1, i2) cd v1.drew (Tx.later ⟨HM.out.r, HM.out.w, HM.out.f, HM.out.h1, HM.out.h2, HE1.out, HE2.out⟩ (Below.refl _ _).drew)
  rw [HRB.out] at q
  refine q.mono ?_
  clear q
  rintro e v2 ⟨rfl, hb2⟩
  have HN2 : Hid (v2.heap[p]? = some (.cells #[.int .u64 ep, .int .i64 kd, .int .i64 t1, .int .u64 t2, .bool pl, .slice a1 n1 c1, .slice a2 n2 c2, .int .i64 i1, .int .u64 i2, .int .i64 cd] 45)) := keepc hb2 (show v1.drew.heap[p]? = _ from HN.out)
  have hpl : p < v1.heap.size := (Array.getElem?_eq_some_iff.1 HN.out).1
  have HB2 : Hid (Below p w v2) := HB.out.drew.trans (hb2.mono (by simp only [World.size_drew]; omega))
  have HL2 : Hid (Lg v2 g ob L) := (HL.out.later (Below.refl _ _).drew).later hb2
  have HM2 : Hid (Ev.mem v2 (⟨ep, kd, (t1, t2), pl, .slice a1 n1 c1, .slice a2 n2 c2, (i1, i2), cd, l1, l2⟩ : Ev)) := (HM.out.later (Below.refl _ _).drew).later hb2
  clear hb2 HN HB HL HM
  go_wp2_with fail
  refine hK.out _ _ ?_ (fun hHeld => ?_)
  · exact ten_cells HN2.out
  clear hK K
  try simp only [Act.put, List.setIfInBounds_toArray, List.set_cons_zero, List.set_cons_succ]
  refine held_take (i := 2) (d := 11) (v := ?_) rfl rfl (by kernel_rfl) (by kernel_rfl) (by kernel_rfl) (fun _ _ _ h => h) (Or.inl ⟨by rfl, ?_⟩) hHeld ?_
  rotate_left
  · (intro w hSw; (try dsimp only at hSw); go_simp; all_goals (with_reducible rfl))
  try simp only [Act.put, List.setIfInBounds_toArray, List.set_cons_zero, List.set_cons_succ]
  refine held_take (i := 3) (d := 12) (v := ?_) rfl rfl (by kernel_rfl) (by kernel_rfl) (by kernel_rfl) (fun _ _ _ h => h) (Or.inl ⟨by rfl, ?_⟩) hHeld ?_
  rotate_left
  · (intro w hSw; (try dsimp only at hSw); go_simp; all_goals (with_reducible rfl))
  try simp only [Act.put, List.setIfInBounds_toArray, List.set_cons_zero, List.set_cons_succ]
  refine held_take (i := 4) (d := 13) (v := ?_) rfl rfl (by kernel_rfl) (by kernel_rfl) (by kernel_rfl) (fun _ _ _ h => h) (Or.inl ⟨by rfl, ?_⟩) hHeld ?_
  rotate_left
  · (intro w hSw; (try dsimp only at hSw); go_simp; all_goals (with_reducible rfl))
  try simp only [Act.put, List.setIfInBounds_toArray, List.set_cons_zero, List.set_cons_succ]
  refine held_take (i := 5) (d := 14) (v := ?_) rfl rfl (by kernel_rfl) (by kernel_rfl) (by kernel_rfl) (fun _ _ _ h => h) (Or.inl ⟨by rfl, ?_⟩) hHeld ?_
  rotate_left
  · (intro w hSw; (try dsimp only at hSw); go_simp; all_goals (with_reducible rfl))
  try simp only [Act.put, List.setIfInBounds_toArray, List.set_cons_zero, List.set_cons_succ]
  refine held_take (i := 6) (d := 15) (v := ?_) rfl rfl (by kernel_rfl) (by kernel_rfl) (by kernel_rfl) (fun _ _ _ h => h) (Or.inl ⟨by rfl, ?_⟩) hHeld ?_
  rotate_left
  · (intro w hSw; (try dsimp only at hSw); go_simp; all_goals (with_reducible rfl))
  try simp only [Act.put, List.setIfInBounds_toArray, List.set_cons_zero, List.set_cons_succ]
  refine held_take (i := 7) (d := 16) (v := ?_) rfl rfl (by kernel_rfl) (by kernel_rfl) (by kernel_rfl) (fun _ _ _ h => h) (Or.inl ⟨by rfl, ?_⟩) hHeld ?_
  rotate_left
  · (intro w hSw; (try dsimp only at hSw); go_simp; all_goals (with_reducible rfl))
  try simp only [Act.put, List.setIfInBounds_toArray, List.set_cons_zero, List.set_cons_succ]
  refine wpAnyH_ready (rs := [8]) (by kernel_rfl) (by simp) ?_
  refine AllReadyH.cons rfl (fun K hK => ?_) AllReadyH.nil
  go_simp
  refine (len_any g ob L v2 HL2.out).mono ?_
  rintro e v3 ⟨rfl, h3⟩
  subst v3
  go_wp2_with fail
  refine hK.out _ _ ?_ (fun hHeld => ?_)
  · exact ten_cells HN2.out
  clear hK K
  try simp only [Act.put, List.setIfInBounds_toArray, List.set_cons_zero, List.set_cons_succ]
  refine wpAnyH_ready (rs := [9]) (by kernel_rfl) (by simp) ?_
  refine AllReadyH.cons rfl (fun K hK => ?_) AllReadyH.nil
  go_simp
  have q := epoch_any g ob L (L.length : Nat) v2 HL2.out (by omega)
  rw [HEP.out] at q
  refine q.mono ?_
  clear q
  rintro e v3 ⟨rfl, h3⟩
  subst v3
  go_wp2_with fail
  refine hK.out _ _ ?_ (fun hHeld => ?_)
  · exact ten_cells HN2.out
  clear hK K
  try simp only [Act.put, List.setIfInBounds_toArray, List.set_cons_zero, List.set_cons_succ]
  refine held_take (i := 10) (d := 19) (v := ?_) rfl rfl (by kernel_rfl) (by kernel_rfl) (by kernel_rfl) (fun _ _ _ h => h) (Or.inl ⟨by rfl, ?_⟩) hHeld ?_
  rotate_left
  · (intro w hSw; (try dsimp only at hSw); go_simp; all_goals (with_reducible rfl))
  try simp only [Act.put, List.setIfInBounds_toArray, List.set_cons_zero, List.set_cons_succ]
  refine held_take (i := 11) (d := 20) (v := ?_) rfl rfl (by kernel_rfl) (by kernel_rfl) (by kernel_rfl) (fun _ _ _ h => h) (Or.inl ⟨by rfl, ?_⟩) hHeld ?_
  rotate_left
  · (intro w hSw; (try dsimp only at hSw); go_simp; all_goals (with_reducible rfl))
  try simp only [Act.put, List.setIfInBounds_toArray, List.set_cons_zero, List.set_cons_succ]
  refine held_take (i := 12) (d := 8) (v := ?_) rfl rfl (by kernel_rfl) (by kernel_rfl) (by kernel_rfl) (fun _ _ _ h => h) (Or.inl ⟨by rfl, ?_⟩) hHeld ?_
  rotate_left
  · (intro w hSw; (try dsimp only at hSw); go_simp; all_goals (with_reducible rfl))
  try simp only [Act.put, List.setIfInBounds_toArray, List.set_cons_zero, List.set_cons_succ]
  refine wpAnyH_done (by kernel_rfl) ?_ _
  refine NoPanic.normal ?_
  go_wp2
  go_ret
  exact ⟨rfl, by rw [HP.out]; exact HB2.out⟩
set_option maxRecDepth 100000 in
set_option maxHeartbeats 8000000 in
theorem add_full (g : Nat) (ob : Option Nat) (L : List Ev) (ep kd t1 t2 : Int) (pl : Bool) (a1 : Option Addr) (n1 c1 : Nat) (a2 : Option Addr) (n2 c2 : Nat) (i1 i2 cd : Int) (l1 : List Rdv) (l2 : List Wrv) (w : World) (last : Int) (h : Lg w g ob L) (he : Ev.mem w (⟨ep, kd, (t1, t2), pl, .slice a1 n1 c1, .slice a2 n2 c2, (i1, i2), cd, l1, l2⟩ : Ev)) (e1 : n1 = l1.length) (e2 : n2 = l2.length) (hl : L.length ≤ 1000) (hr : rB (⟨ep, kd, (t1, t2), pl, .slice a1 n1 c1, .slice a2 n2 c2, (i1, i2), cd, l1, l2⟩ : Ev) = true) (hlast : epL L L.length = last) (hs : ¬ ep < last) (hf : 400 ≤ L.length) :
    Calls Try.prog 26 #[.pointer (some ⟨g, 0, none⟩), .agg #[.int .u64 ep, .int .i64 kd, .int .i64 t1, .int .u64 t2, .bool pl, .slice a1 n1 c1, .slice a2 n2 c2, .int .i64 i1, .int .u64 i2, .int .i64 cd]] w fun e w' => e = .returned (.int .i64 9) ∧ Below w.heap.size w w' := by
  have HRB : Hid (rentry ep kd (t1, t2) pl l1 l2 (i1, i2) cd = true) := hr
  have HEP : Hid (epL L (L.length : Nat) = last) := hlast
  have hd : decide (ep < last) = false := by simpa using hs
  clear hr hlast
  have hb0 : Below w.heap.size w (w.alloc (.cells #[.int .u64 ep, .int .i64 kd, .int .i64 t1, .int .u64 t2, .bool pl, .slice a1 n1 c1, .slice a2 n2 c2, .int .i64 i1, .int .u64 i2, .int .i64 cd] 45)) := (Below.refl _ _).alloc (Nat.le_refl _) _
  have hn := heap_alloc_new w (.cells #[.int .u64 ep, .int .i64 kd, .int .i64 t1, .int .u64 t2, .bool pl, .slice a1 n1 c1, .slice a2 n2 c2, .int .i64 i1, .int .u64 i2, .int .i64 cd] 45)
  have HL : Hid (Lg (w.alloc (.cells #[.int .u64 ep, .int .i64 kd, .int .i64 t1, .int .u64 t2, .bool pl, .slice a1 n1 c1, .slice a2 n2 c2, .int .i64 i1, .int .u64 i2, .int .i64 cd] 45)) g ob L) := h.later hb0
  have HM : Hid (Ev.mem (w.alloc (.cells #[.int .u64 ep, .int .i64 kd, .int .i64 t1, .int .u64 t2, .bool pl, .slice a1 n1 c1, .slice a2 n2 c2, .int .i64 i1, .int .u64 i2, .int .i64 cd] 45)) (⟨ep, kd, (t1, t2), pl, .slice a1 n1 c1, .slice a2 n2 c2, (i1, i2), cd, l1, l2⟩ : Ev)) := he.later hb0
  have HE1 : Hid (n1 = l1.length) := e1
  have HE2 : Hid (n2 = l2.length) := e2
  have HGL : Hid (g < w.heap.size) := h.lt
  clear h he e1 e2
  go_enter Try.func26, Try.ntmps26
  go_upto_region 3 with fail
  generalize hv : w.alloc (.cells #[.int .u64 ep, .int .i64 kd, .int .i64 t1, .int .u64 t2, .bool pl, .slice a1 n1 c1, .slice a2 n2 c2, .int .i64 i1, .int .u64 i2, .int .i64 cd] 45) = v1 at *
  clear hv
  generalize hp : w.heap.size = p at *
  have HP : Hid (w.heap.size = p) := hp
  have HB : Hid (Below p w v1) := hb0
  have HN : Hid (v1.heap[p]? = some (.cells #[.int .u64 ep, .int .i64 kd, .int .i64 t1, .int .u64 t2, .bool pl, .slice a1 n1 c1, .slice a2 n2 c2, .int .i64 i1, .int .u64 i2, .int .i64 cd] 45)) := hn
  clear hb0 hn hp
  refine wp_region_noPanic ?_
  refine wp_region_held_drew (S := (fun w' => w'.cell? ⟨p, 0, none⟩ = some (.int .u64 ep) ∧ w'.cell? ⟨p, 1, none⟩ = some (.int .i64 kd) ∧ w'.cell? ⟨p, 2, none⟩ = some (.int .i64 t1) ∧ w'.cell? ⟨p, 3, none⟩ = some (.int .u64 t2) ∧ w'.cell? ⟨p, 4, none⟩ = some (.bool pl) ∧ w'.cell? ⟨p, 5, none⟩ = some (.slice a1 n1 c1) ∧ w'.cell? ⟨p, 6, none⟩ = some (.slice a2 n2 c2) ∧ w'.cell? ⟨p, 7, none⟩ = some (.int .i64 i1) ∧ w'.cell? ⟨p, 8, none⟩ = some (.int .u64 i2) ∧ w'.cell? ⟨p, 9, none⟩ = some (.int .i64 cd))) (by kernel_rfl) ?_ (fun hHeld => ?_)
  · exact ten_cells HN.out
  refine held_take (i := 0) (d := 9) (v := ?_) rfl rfl (by kernel_rfl) (by kernel_rfl) (by kernel_rfl) (fun _ _ _ h => h) (Or.inl ⟨by rfl, ?_⟩) hHeld ?_
  rotate_left
  · (intro w hSw; (try dsimp only at hSw); go_simp; all_goals (with_reducible rfl))
  try simp only [Act.put, List.setIfInBounds_toArray, List.set_cons_zero, List.set_cons_succ]
  refine wpAnyH_ready (rs := [1]) (by kernel_rfl) (by simp) ?_
  refine AllReadyH.cons rfl (fun K hK => ?_) AllReadyH.nil
  go_simp
  have q := rightE_any ep kd (t1, t2) pl 0 a1 n1 c1 a2 n2 c2 l1 l2 (i1, i2) cd v1.drew (Tx.later ⟨HM.out.r, HM.out.w, HM.out.f, HM.out.h1, HM.out.h2, HE1.out, HE2.out⟩ (Below.refl _ _).drew)
  rw [HRB.out] at q
  refine q.mono ?_
  clear q
  rintro e v2 ⟨rfl, hb2⟩
  have HN2 : Hid (v2.heap[p]? = some (.cells #[.int .u64 ep, .int .i64 kd, .int .i64 t1, .int .u64 t2, .bool pl, .slice a1 n1 c1, .slice a2 n2 c2, .int .i64 i1, .int .u64 i2, .int .i64 cd] 45)) := keepc hb2 (show v1.drew.heap[p]? = _ from HN.out)
  have hpl : p < v1.heap.size := (Array.getElem?_eq_some_iff.1 HN.out).1
  have HB2 : Hid (Below p w v2) := HB.out.drew.trans (hb2.mono (by simp only [World.size_drew]; omega))
  have HL2 : Hid (Lg v2 g ob L) := (HL.out.later (Below.refl _ _).drew).later hb2
  have HM2 : Hid (Ev.mem v2 (⟨ep, kd, (t1, t2), pl, .slice a1 n1 c1, .slice a2 n2 c2, (i1, i2), cd, l1, l2⟩ : Ev)) := (HM.out.later (Below.refl _ _).drew).later hb2
  clear hb2 HN HB HL HM
  go_wp2_with fail
  refine hK.out _ _ ?_ (fun hHeld => ?_)
  · exact ten_cells HN2.out
  clear hK K
  try simp only [Act.put, List.setIfInBounds_toArray, List.set_cons_zero, List.set_cons_succ]
  refine held_take (i := 2) (d := 11) (v := ?_) rfl rfl (by kernel_rfl) (by kernel_rfl) (by kernel_rfl) (fun _ _ _ h => h) (Or.inl ⟨by rfl, ?_⟩) hHeld ?_
  rotate_left
  · (intro w hSw; (try dsimp only at hSw); go_simp; all_goals (with_reducible rfl))
  try simp only [Act.put, List.setIfInBounds_toArray, List.set_cons_zero, List.set_cons_succ]
  refine held_take (i := 3) (d := 12) (v := ?_) rfl rfl (by kernel_rfl) (by kernel_rfl) (by kernel_rfl) (fun _ _ _ h => h) (Or.inl ⟨by rfl, ?_⟩) hHeld ?_
  rotate_left
  · (intro w hSw; (try dsimp only at hSw); go_simp; all_goals (with_reducible rfl))
  try simp only [Act.put, List.setIfInBounds_toArray, List.set_cons_zero, List.set_cons_succ]
  refine held_take (i := 4) (d := 13) (v := ?_) rfl rfl (by kernel_rfl) (by kernel_rfl) (by kernel_rfl) (fun _ _ _ h => h) (Or.inl ⟨by rfl, ?_⟩) hHeld ?_
  rotate_left
  · (intro w hSw; (try dsimp only at hSw); go_simp; all_goals (with_reducible rfl))
  try simp only [Act.put, List.setIfInBounds_toArray, List.set_cons_zero, List.set_cons_succ]
  refine held_take (i := 5) (d := 14) (v := ?_) rfl rfl (by kernel_rfl) (by kernel_rfl) (by kernel_rfl) (fun _ _ _ h => h) (Or.inl ⟨by rfl, ?_⟩) hHeld ?_
  rotate_left
  · (intro w hSw; (try dsimp only at hSw); go_simp; all_goals (with_reducible rfl))
  try simp only [Act.put, List.setIfInBounds_toArray, List.set_cons_zero, List.set_cons_succ]
  refine held_take (i := 6) (d := 15) (v := ?_) rfl rfl (by kernel_rfl) (by kernel_rfl) (by kernel_rfl) (fun _ _ _ h => h) (Or.inl ⟨by rfl, ?_⟩) hHeld ?_
  rotate_left
  · (intro w hSw; (try dsimp only at hSw); go_simp; all_goals (with_reducible rfl))
  try simp only [Act.put, List.setIfInBounds_toArray, List.set_cons_zero, List.set_cons_succ]
  refine held_take (i := 7) (d := 16) (v := ?_) rfl rfl (by kernel_rfl) (by kernel_rfl) (by kernel_rfl) (fun _ _ _ h => h) (Or.inl ⟨by rfl, ?_⟩) hHeld ?_
  rotate_left
  · (intro w hSw; (try dsimp only at hSw); go_simp; all_goals (with_reducible rfl))
  try simp only [Act.put, List.setIfInBounds_toArray, List.set_cons_zero, List.set_cons_succ]
  refine wpAnyH_ready (rs := [8]) (by kernel_rfl) (by simp) ?_
  refine AllReadyH.cons rfl (fun K hK => ?_) AllReadyH.nil
  go_simp
  refine (len_any g ob L v2 HL2.out).mono ?_
  rintro e v3 ⟨rfl, h3⟩
  subst v3
  go_wp2_with fail
  refine hK.out _ _ ?_ (fun hHeld => ?_)
  · exact ten_cells HN2.out
  clear hK K
  try simp only [Act.put, List.setIfInBounds_toArray, List.set_cons_zero, List.set_cons_succ]
  refine wpAnyH_ready (rs := [9]) (by kernel_rfl) (by simp) ?_
  refine AllReadyH.cons rfl (fun K hK => ?_) AllReadyH.nil
  go_simp
  have q := epoch_any g ob L (L.length : Nat) v2 HL2.out (by omega)
  rw [HEP.out] at q
  refine q.mono ?_
  clear q
  rintro e v3 ⟨rfl, h3⟩
  subst v3
  go_wp2_with fail
  refine hK.out _ _ ?_ (fun hHeld => ?_)
  · exact ten_cells HN2.out
  clear hK K
  try simp only [Act.put, List.setIfInBounds_toArray, List.set_cons_zero, List.set_cons_succ]
  refine held_take (i := 10) (d := 19) (v := ?_) rfl rfl (by kernel_rfl) (by kernel_rfl) (by kernel_rfl) (fun _ _ _ h => h) (Or.inl ⟨by rfl, ?_⟩) hHeld ?_
  rotate_left
  · (intro w hSw; (try dsimp only at hSw); go_simp; all_goals (with_reducible rfl))
  try simp only [Act.put, List.setIfInBounds_toArray, List.set_cons_zero, List.set_cons_succ]
  refine held_take (i := 11) (d := 20) (v := ?_) rfl rfl (by kernel_rfl) (by kernel_rfl) (by kernel_rfl) (fun _ _ _ h => h) (Or.inl ⟨by rfl, ?_⟩) hHeld ?_
  rotate_left
  · (intro w hSw; (try dsimp only at hSw); go_simp; all_goals (with_reducible rfl))
  try simp only [Act.put, List.setIfInBounds_toArray, List.set_cons_zero, List.set_cons_succ]
  refine held_take (i := 12) (d := 8) (v := ?_) rfl rfl (by kernel_rfl) (by kernel_rfl) (by kernel_rfl) (fun _ _ _ h => h) (Or.inl ⟨by rfl, ?_⟩) hHeld ?_
  rotate_left
  · (intro w hSw; (try dsimp only at hSw); go_simp; all_goals (with_reducible rfl))
  try simp only [Act.put, List.setIfInBounds_toArray, List.set_cons_zero, List.set_cons_succ]
  refine wpAnyH_done (by kernel_rfl) ?_ _
  refine NoPanic.normal ?_
  go_wp2_with (first | (go_at_call 27; refine (len_any g ob L v2 HL2.out).mono ?_; rintro e v3 ⟨rfl, h3⟩; subst v3) | fail)
  go_ret
  exact ⟨rfl, by rw [HP.out]; exact HB2.out⟩
set_option maxRecDepth 100000 in
set_option maxHeartbeats 8000000 in
theorem add_new (g : Nat) (ob : Option Nat) (L : List Ev) (ep kd t1 t2 : Int) (pl : Bool) (a1 : Option Addr) (n1 c1 : Nat) (a2 : Option Addr) (n2 c2 : Nat) (i1 i2 cd : Int) (l1 : List Rdv) (l2 : List Wrv) (w : World) (last : Int) (h : Lg w g ob L) (he : Ev.mem w (⟨ep, kd, (t1, t2), pl, .slice a1 n1 c1, .slice a2 n2 c2, (i1, i2), cd, l1, l2⟩ : Ev)) (e1 : n1 = l1.length) (e2 : n2 = l2.length) (hl : L.length ≤ 1000) (hr : rB (⟨ep, kd, (t1, t2), pl, .slice a1 n1 c1, .slice a2 n2 c2, (i1, i2), cd, l1, l2⟩ : Ev) = true) (hlast : epL L L.length = last) (hs : ¬ ep < last) (hf : L.length < 400) :
    Calls Try.prog 26 #[.pointer (some ⟨g, 0, none⟩), .agg #[.int .u64 ep, .int .i64 kd, .int .i64 t1, .int .u64 t2, .bool pl, .slice a1 n1 c1, .slice a2 n2 c2, .int .i64 i1, .int .u64 i2, .int .i64 cd]] w fun e w' => e = .returned (.int .i64 0) ∧ ∃ x1 y1 x2 y2 ob', Lg w' g ob' (L ++ [(⟨ep, kd, (t1, t2), pl, .slice x1 l1.length y1, .slice x2 l2.length y2, (i1, i2), cd, l1, l2⟩ : Ev)]) ∧ Kp w w' g ob ∧ (ob' = ob ∨ ∃ k, ob' = some k ∧ w.heap.size ≤ k) ∧ (Value.slice a1 n1 c1 = .slice none 0 0 → Value.slice x1 l1.length y1 = .slice none 0 0) ∧ (Value.slice a2 n2 c2 = .slice none 0 0 → Value.slice x2 l2.length y2 = .slice none 0 0) := by
  have HRB : Hid (rentry ep kd (t1, t2) pl l1 l2 (i1, i2) cd = true) := hr
  have HEP : Hid (epL L (L.length : Nat) = last) := hlast
  have hd : decide (ep < last) = false := by simpa using hs
  have HPO : Hid (∀ k, ob = some k → k < w.heap.size) := fun k hk => tag_lt (h.tags.2 k hk)
  clear hr hlast
  have hb0 : Below w.heap.size w (w.alloc (.cells #[.int .u64 ep, .int .i64 kd, .int .i64 t1, .int .u64 t2, .bool pl, .slice a1 n1 c1, .slice a2 n2 c2, .int .i64 i1, .int .u64 i2, .int .i64 cd] 45)) := (Below.refl _ _).alloc (Nat.le_refl _) _
  have hn := heap_alloc_new w (.cells #[.int .u64 ep, .int .i64 kd, .int .i64 t1, .int .u64 t2, .bool pl, .slice a1 n1 c1, .slice a2 n2 c2, .int .i64 i1, .int .u64 i2, .int .i64 cd] 45)
  have HL : Hid (Lg (w.alloc (.cells #[.int .u64 ep, .int .i64 kd, .int .i64 t1, .int .u64 t2, .bool pl, .slice a1 n1 c1, .slice a2 n2 c2, .int .i64 i1, .int .u64 i2, .int .i64 cd] 45)) g ob L) := h.later hb0
  have HM : Hid (Ev.mem (w.alloc (.cells #[.int .u64 ep, .int .i64 kd, .int .i64 t1, .int .u64 t2, .bool pl, .slice a1 n1 c1, .slice a2 n2 c2, .int .i64 i1, .int .u64 i2, .int .i64 cd] 45)) (⟨ep, kd, (t1, t2), pl, .slice a1 n1 c1, .slice a2 n2 c2, (i1, i2), cd, l1, l2⟩ : Ev)) := he.later hb0
  have HE1 : Hid (n1 = l1.length) := e1
  have HE2 : Hid (n2 = l2.length) := e2
  have HGL : Hid (g < w.heap.size) := h.lt
  clear h he e1 e2
  go_enter Try.func26, Try.ntmps26
  go_upto_region 3 with fail
  generalize hv : w.alloc (.cells #[.int .u64 ep, .int .i64 kd, .int .i64 t1, .int .u64 t2, .bool pl, .slice a1 n1 c1, .slice a2 n2 c2, .int .i64 i1, .int .u64 i2, .int .i64 cd] 45) = v1 at *
  clear hv
  generalize hp : w.heap.size = p at *
  have HP : Hid (w.heap.size = p) := hp
  have HB : Hid (Below p w v1) := hb0
  have HN : Hid (v1.heap[p]? = some (.cells #[.int .u64 ep, .int .i64 kd, .int .i64 t1, .int .u64 t2, .bool pl, .slice a1 n1 c1, .slice a2 n2 c2, .int .i64 i1, .int .u64 i2, .int .i64 cd] 45)) := hn
  clear hb0 hn hp
  refine wp_region_noPanic ?_
  refine wp_region_held_drew (S := (fun w' => w'.cell? ⟨p, 0, none⟩ = some (.int .u64 ep) ∧ w'.cell? ⟨p, 1, none⟩ = some (.int .i64 kd) ∧ w'.cell? ⟨p, 2, none⟩ = some (.int .i64 t1) ∧ w'.cell? ⟨p, 3, none⟩ = some (.int .u64 t2) ∧ w'.cell? ⟨p, 4, none⟩ = some (.bool pl) ∧ w'.cell? ⟨p, 5, none⟩ = some (.slice a1 n1 c1) ∧ w'.cell? ⟨p, 6, none⟩ = some (.slice a2 n2 c2) ∧ w'.cell? ⟨p, 7, none⟩ = some (.int .i64 i1) ∧ w'.cell? ⟨p, 8, none⟩ = some (.int .u64 i2) ∧ w'.cell? ⟨p, 9, none⟩ = some (.int .i64 cd))) (by kernel_rfl) ?_ (fun hHeld => ?_)
  · exact ten_cells HN.out
  refine held_take (i := 0) (d := 9) (v := ?_) rfl rfl (by kernel_rfl) (by kernel_rfl) (by kernel_rfl) (fun _ _ _ h => h) (Or.inl ⟨by rfl, ?_⟩) hHeld ?_
  rotate_left
  · (intro w hSw; (try dsimp only at hSw); go_simp; all_goals (with_reducible rfl))
  try simp only [Act.put, List.setIfInBounds_toArray, List.set_cons_zero, List.set_cons_succ]
  refine wpAnyH_ready (rs := [1]) (by kernel_rfl) (by simp) ?_
  refine AllReadyH.cons rfl (fun K hK => ?_) AllReadyH.nil
  go_simp
  have q := rightE_any ep kd (t1, t2) pl 0 a1 n1 c1 a2 n2 c2 l1 l2 (i1, i2) cd v1.drew (Tx.later ⟨HM.out.r, HM.out.w, HM.out.f, HM.out.h1, HM.out.h2, HE1.out, HE2.out⟩ (Below.refl _ _).drew)
  rw [HRB.out] at q
  refine q.mono ?_
  clear q
  rintro e v2 ⟨rfl, hb2⟩
  have HN2 : Hid (v2.heap[p]? = some (.cells #[.int .u64 ep, .int .i64 kd, .int .i64 t1, .int .u64 t2, .bool pl, .slice a1 n1 c1, .slice a2 n2 c2, .int .i64 i1, .int .u64 i2, .int .i64 cd] 45)) := keepc hb2 (show v1.drew.heap[p]? = _ from HN.out)
  have hpl : p < v1.heap.size := (Array.getElem?_eq_some_iff.1 HN.out).1
  have HB2 : Hid (Below p w v2) := HB.out.drew.trans (hb2.mono (by simp only [World.size_drew]; omega))
  have HL2 : Hid (Lg v2 g ob L) := (HL.out.later (Below.refl _ _).drew).later hb2
  have HM2 : Hid (Ev.mem v2 (⟨ep, kd, (t1, t2), pl, .slice a1 n1 c1, .slice a2 n2 c2, (i1, i2), cd, l1, l2⟩ : Ev)) := (HM.out.later (Below.refl _ _).drew).later hb2
  clear hb2 HN HB HL HM
  go_wp2_with fail
  refine hK.out _ _ ?_ (fun hHeld => ?_)
  · exact ten_cells HN2.out
  clear hK K
  try simp only [Act.put, List.setIfInBounds_toArray, List.set_cons_zero, List.set_cons_succ]
  refine held_take (i := 2) (d := 11) (v := ?_) rfl rfl (by kernel_rfl) (by kernel_rfl) (by kernel_rfl) (fun _ _ _ h => h) (Or.inl ⟨by rfl, ?_⟩) hHeld ?_
  rotate_left
  · (intro w hSw; (try dsimp only at hSw); go_simp; all_goals (with_reducible rfl))
  try simp only [Act.put, List.setIfInBounds_toArray, List.set_cons_zero, List.set_cons_succ]
  refine held_take (i := 3) (d := 12) (v := ?_) rfl rfl (by kernel_rfl) (by kernel_rfl) (by kernel_rfl) (fun _ _ _ h => h) (Or.inl ⟨by rfl, ?_⟩) hHeld ?_
  rotate_left
  · (intro w hSw; (try dsimp only at hSw); go_simp; all_goals (with_reducible rfl))
  try simp only [Act.put, List.setIfInBounds_toArray, List.set_cons_zero, List.set_cons_succ]
  refine held_take (i := 4) (d := 13) (v := ?_) rfl rfl (by kernel_rfl) (by kernel_rfl) (by kernel_rfl) (fun _ _ _ h => h) (Or.inl ⟨by rfl, ?_⟩) hHeld ?_
  rotate_left
  · (intro w hSw; (try dsimp only at hSw); go_simp; all_goals (with_reducible rfl))
  try simp only [Act.put, List.setIfInBounds_toArray, List.set_cons_zero, List.set_cons_succ]
  refine held_take (i := 5) (d := 14) (v := ?_) rfl rfl (by kernel_rfl) (by kernel_rfl) (by kernel_rfl) (fun _ _ _ h => h) (Or.inl ⟨by rfl, ?_⟩) hHeld ?_
  rotate_left
  · (intro w hSw; (try dsimp only at hSw); go_simp; all_goals (with_reducible rfl))
  try simp only [Act.put, List.setIfInBounds_toArray, List.set_cons_zero, List.set_cons_succ]
  refine held_take (i := 6) (d := 15) (v := ?_) rfl rfl (by kernel_rfl) (by kernel_rfl) (by kernel_rfl) (fun _ _ _ h => h) (Or.inl ⟨by rfl, ?_⟩) hHeld ?_
  rotate_left
  · (intro w hSw; (try dsimp only at hSw); go_simp; all_goals (with_reducible rfl))
  try simp only [Act.put, List.setIfInBounds_toArray, List.set_cons_zero, List.set_cons_succ]
  refine held_take (i := 7) (d := 16) (v := ?_) rfl rfl (by kernel_rfl) (by kernel_rfl) (by kernel_rfl) (fun _ _ _ h => h) (Or.inl ⟨by rfl, ?_⟩) hHeld ?_
  rotate_left
  · (intro w hSw; (try dsimp only at hSw); go_simp; all_goals (with_reducible rfl))
  try simp only [Act.put, List.setIfInBounds_toArray, List.set_cons_zero, List.set_cons_succ]
  refine wpAnyH_ready (rs := [8]) (by kernel_rfl) (by simp) ?_
  refine AllReadyH.cons rfl (fun K hK => ?_) AllReadyH.nil
  go_simp
  refine (len_any g ob L v2 HL2.out).mono ?_
  rintro e v3 ⟨rfl, h3⟩
  subst v3
  go_wp2_with fail
  refine hK.out _ _ ?_ (fun hHeld => ?_)
  · exact ten_cells HN2.out
  clear hK K
  try simp only [Act.put, List.setIfInBounds_toArray, List.set_cons_zero, List.set_cons_succ]
  refine wpAnyH_ready (rs := [9]) (by kernel_rfl) (by simp) ?_
  refine AllReadyH.cons rfl (fun K hK => ?_) AllReadyH.nil
  go_simp
  have q := epoch_any g ob L (L.length : Nat) v2 HL2.out (by omega)
  rw [HEP.out] at q
  refine q.mono ?_
  clear q
  rintro e v3 ⟨rfl, h3⟩
  subst v3
  go_wp2_with fail
  refine hK.out _ _ ?_ (fun hHeld => ?_)
  · exact ten_cells HN2.out
  clear hK K
  try simp only [Act.put, List.setIfInBounds_toArray, List.set_cons_zero, List.set_cons_succ]
  refine held_take (i := 10) (d := 19) (v := ?_) rfl rfl (by kernel_rfl) (by kernel_rfl) (by kernel_rfl) (fun _ _ _ h => h) (Or.inl ⟨by rfl, ?_⟩) hHeld ?_
  rotate_left
  · (intro w hSw; (try dsimp only at hSw); go_simp; all_goals (with_reducible rfl))
  try simp only [Act.put, List.setIfInBounds_toArray, List.set_cons_zero, List.set_cons_succ]
  refine held_take (i := 11) (d := 20) (v := ?_) rfl rfl (by kernel_rfl) (by kernel_rfl) (by kernel_rfl) (fun _ _ _ h => h) (Or.inl ⟨by rfl, ?_⟩) hHeld ?_
  rotate_left
  · (intro w hSw; (try dsimp only at hSw); go_simp; all_goals (with_reducible rfl))
  try simp only [Act.put, List.setIfInBounds_toArray, List.set_cons_zero, List.set_cons_succ]
  refine held_take (i := 12) (d := 8) (v := ?_) rfl rfl (by kernel_rfl) (by kernel_rfl) (by kernel_rfl) (fun _ _ _ h => h) (Or.inl ⟨by rfl, ?_⟩) hHeld ?_
  rotate_left
  · (intro w hSw; (try dsimp only at hSw); go_simp; all_goals (with_reducible rfl))
  try simp only [Act.put, List.setIfInBounds_toArray, List.set_cons_zero, List.set_cons_succ]
  refine wpAnyH_done (by kernel_rfl) ?_ _
  refine NoPanic.normal ?_
  go_wp2_with (first | (go_at_call 27; refine (len_any g ob L v2 HL2.out).mono ?_; rintro e v3 ⟨rfl, h3⟩; subst v3) | fail)
  go_upto_region 7 with fail
  obtain ⟨la, lc, -, -, hc0, -⟩ := HL2.out.cell
  refine wp_region_noPanic ?_
  refine wp_region_letz 11 (fun w' => w'.cell? ⟨g, 0, none⟩ = some (.slice la L.length lc) ∧ w'.cell? ⟨p, 0, none⟩ = some (.int .u64 ep) ∧ w'.cell? ⟨p, 1, none⟩ = some (.int .i64 kd) ∧ w'.cell? ⟨p, 2, none⟩ = some (.int .i64 t1) ∧ w'.cell? ⟨p, 3, none⟩ = some (.int .u64 t2) ∧ w'.cell? ⟨p, 4, none⟩ = some (.bool pl) ∧ w'.cell? ⟨p, 5, none⟩ = some (.slice a1 n1 c1) ∧ w'.cell? ⟨p, 6, none⟩ = some (.slice a2 n2 c2) ∧ w'.cell? ⟨p, 7, none⟩ = some (.int .i64 i1) ∧ w'.cell? ⟨p, 8, none⟩ = some (.int .u64 i2) ∧ w'.cell? ⟨p, 9, none⟩ = some (.int .i64 cd)) (by kernel_rfl) ?_ (fun hHeld => ?_)
  · exact ⟨hc0, ten_cells (show v2.drew.heap[p]? = _ from HN2.out)⟩
  refine letz_take (i := 0) (d := 25) (v := ?_) rfl rfl (by kernel_rfl) (by kernel_rfl) (by kernel_rfl) (by kernel_rfl) (fun _ _ _ h => h) (Or.inl ⟨by rfl, ?_⟩) hHeld ?_
  rotate_left
  · (intro w hSw; (try dsimp only at hSw); go_simp; all_goals (with_reducible rfl))
  try simp only [Act.put, List.setIfInBounds_toArray, List.set_cons_zero, List.set_cons_succ]
  refine letz_take (i := 1) (d := 26) (v := ?_) rfl rfl (by kernel_rfl) (by kernel_rfl) (by kernel_rfl) (by kernel_rfl) (fun _ _ _ h => h) (Or.inl ⟨by rfl, ?_⟩) hHeld ?_
  rotate_left
  · (intro w hSw; (try dsimp only at hSw); go_simp; all_goals (with_reducible rfl))
  try simp only [Act.put, List.setIfInBounds_toArray, List.set_cons_zero, List.set_cons_succ]
  refine letz_take (i := 2) (d := 27) (v := ?_) rfl rfl (by kernel_rfl) (by kernel_rfl) (by kernel_rfl) (by kernel_rfl) (fun _ _ _ h => h) (Or.inl ⟨by rfl, ?_⟩) hHeld ?_
  rotate_left
  · (intro w hSw; (try dsimp only at hSw); go_simp; all_goals (with_reducible rfl))
  try simp only [Act.put, List.setIfInBounds_toArray, List.set_cons_zero, List.set_cons_succ]
  refine letz_take (i := 3) (d := 28) (v := ?_) rfl rfl (by kernel_rfl) (by kernel_rfl) (by kernel_rfl) (by kernel_rfl) (fun _ _ _ h => h) (Or.inl ⟨by rfl, ?_⟩) hHeld ?_
  rotate_left
  · (intro w hSw; (try dsimp only at hSw); go_simp; all_goals (with_reducible rfl))
  try simp only [Act.put, List.setIfInBounds_toArray, List.set_cons_zero, List.set_cons_succ]
  refine letz_take (i := 4) (d := 29) (v := ?_) rfl rfl (by kernel_rfl) (by kernel_rfl) (by kernel_rfl) (by kernel_rfl) (fun _ _ _ h => h) (Or.inl ⟨by rfl, ?_⟩) hHeld ?_
  rotate_left
  · (intro w hSw; (try dsimp only at hSw); go_simp; all_goals (with_reducible rfl))
  try simp only [Act.put, List.setIfInBounds_toArray, List.set_cons_zero, List.set_cons_succ]
  refine letz_take (i := 5) (d := 30) (v := ?_) rfl rfl (by kernel_rfl) (by kernel_rfl) (by kernel_rfl) (by kernel_rfl) (fun _ _ _ h => h) (Or.inl ⟨by rfl, ?_⟩) hHeld ?_
  rotate_left
  · (intro w hSw; (try dsimp only at hSw); go_simp; all_goals (with_reducible rfl))
  try simp only [Act.put, List.setIfInBounds_toArray, List.set_cons_zero, List.set_cons_succ]
  refine letz_one (i := 6) (by kernel_rfl) rfl (fun K hK => ?_)
  go_simp
  refine (own_any (⟨ep, kd, (t1, t2), pl, .slice a1 n1 c1, .slice a2 n2 c2, (i1, i2), cd, l1, l2⟩ : Ev) v2.drew (HM2.out.later (Below.refl _ _).drew)).mono ?_
  rintro e v3 ⟨⟨u1, u2, rfl, hm3, hu1, hu2⟩, hb3⟩
  have hr3 : v3.ownsRow 0 95 2 u1 l1.length (l1.flatMap Rdv.cells) := hm3.r
  have hw3 : v3.ownsRow 0 98 3 u2 l2.length (l2.flatMap Wrv.cells) := hm3.w
  obtain ⟨x1, y1, hx1, -⟩ := owns_at Rdv.cells 2 (fun _ => rfl) hr3
  obtain ⟨x2, y2, hx2, -⟩ := owns_at Wrv.cells 3 (fun _ => rfl) hw3
  subst hx1 hx2
  clear hr3 hw3
  have HN3 : Hid (v3.heap[p]? = some (.cells #[.int .u64 ep, .int .i64 kd, .int .i64 t1, .int .u64 t2, .bool pl, .slice a1 n1 c1, .slice a2 n2 c2, .int .i64 i1, .int .u64 i2, .int .i64 cd] 45)) := keepc hb3 (show v2.drew.heap[p]? = _ from HN2.out)
  have hpl2 : p < v2.heap.size := (Array.getElem?_eq_some_iff.1 HN2.out).1
  have HB3 : Hid (Below p w v3) := HB2.out.drew.trans (hb3.mono (by simp only [World.size_drew]; omega))
  have HL3 : Hid (Lg v3 g ob L) := (HL2.out.later (Below.refl _ _).drew).later hb3
  have hc3 : v3.cell? ⟨g, 0, none⟩ = some (.slice la L.length lc) := (hb3.cell (p := ⟨g, 0, none⟩) (show g < v2.drew.heap.size from HL2.out.lt)).trans hc0
  have HU : Hid ((Value.slice a1 n1 c1 = .slice none 0 0 → Value.slice x1 l1.length y1 = .slice none 0 0) ∧ (Value.slice a2 n2 c2 = .slice none 0 0 → Value.slice x2 l2.length y2 = .slice none 0 0)) := ⟨hu1, hu2⟩
  have HX : Hid (Ev.mem v3 (⟨ep, kd, (t1, t2), pl, .slice x1 l1.length y1, .slice x2 l2.length y2, (i1, i2), cd, l1, l2⟩ : Ev)) := hm3
  clear hb3 hm3 hu1 hu2 HN2 HB2 HL2 HM2
  go_wp2_with fail
  refine hK.out _ _ ?_ (fun hHeld => ?_)
  · exact fun _ => ⟨hc3, ten_cells HN3.out⟩
  replace hHeld := hHeld (by kernel_rfl)
  clear hK K
  try simp only [Act.put, List.setIfInBounds_toArray, List.set_cons_zero, List.set_cons_succ]
  have ha4 : Below v3.heap.size v3 (v3.alloc (.cells #[.int .u64 ep, .int .i64 kd, .int .i64 t1, .int .u64 t2, .bool pl, .slice x1 l1.length y1, .slice x2 l2.length y2, .int .i64 i1, .int .u64 i2, .int .i64 cd] 45)) := (Below.refl _ _).alloc (Nat.le_refl _) _
  have HN4 : Hid ((v3.alloc (.cells #[.int .u64 ep, .int .i64 kd, .int .i64 t1, .int .u64 t2, .bool pl, .slice x1 l1.length y1, .slice x2 l2.length y2, .int .i64 i1, .int .u64 i2, .int .i64 cd] 45)).heap[p]? = some (.cells #[.int .u64 ep, .int .i64 kd, .int .i64 t1, .int .u64 t2, .bool pl, .slice a1 n1 c1, .slice a2 n2 c2, .int .i64 i1, .int .u64 i2, .int .i64 cd] 45)) := keepc ha4 HN3.out
  have hc4 : (v3.alloc (.cells #[.int .u64 ep, .int .i64 kd, .int .i64 t1, .int .u64 t2, .bool pl, .slice x1 l1.length y1, .slice x2 l2.length y2, .int .i64 i1, .int .u64 i2, .int .i64 cd] 45)).cell? ⟨g, 0, none⟩ = some (.slice la L.length lc) := (ha4.cell (p := ⟨g, 0, none⟩) HL3.out.lt).trans hc3
  have HNEW : Hid ((v3.alloc (.cells #[.int .u64 ep, .int .i64 kd, .int .i64 t1, .int .u64 t2, .bool pl, .slice x1 l1.length y1, .slice x2 l2.length y2, .int .i64 i1, .int .u64 i2, .int .i64 cd] 45)).heap[v3.heap.size]? = some (.cells #[.int .u64 ep, .int .i64 kd, .int .i64 t1, .int .u64 t2, .bool pl, .slice x1 l1.length y1, .slice x2 l2.length y2, .int .i64 i1, .int .u64 i2, .int .i64 cd] 45)) := heap_alloc_new v3 _
  refine letz_one (i := 7) (by kernel_rfl) rfl (fun K hK => ?_)
  go_simp
  refine hK.out _ _ ?_ (fun hHeld => ?_)
  · exact fun _ => ⟨hc4, ten_cells HN4.out⟩
  replace hHeld := hHeld (by kernel_rfl)
  clear hK K
  try simp only [Act.put, List.setIfInBounds_toArray, List.set_cons_zero, List.set_cons_succ]
  obtain ⟨la', lc', hg3, ho3, hcc, hob⟩ := HL3.out.cell
  have e3 := hcc.symm.trans hc3
  simp only [Option.some.injEq, Value.slice.injEq, true_and] at e3
  obtain ⟨rfl, rfl⟩ := e3
  have HO3 : Hid (v3.ownsRow 0 45 10 (.slice la' L.length lc') L.length (L.flatMap Ev.cells)) := ho3
  have HG3 : Hid (v3.heap[g]? = some (.cells #[.slice la' L.length lc'] 77 (0, 0))) := hg3
  have HOB : Hid ((Value.slice la' L.length lc').ownBlock = ob) := hob
  clear ho3 hg3 hob hcc
  refine letz_one (i := 8) (by kernel_rfl) rfl (fun K hK => ?_)
  refine step_append_els Ev.cells 10 112 30 45 _ Try.underlying30 Try.info_45 rfl (by decide) (fun _ => rfl) (by decide) rfl _ _ rfl 0 _ L rfl (owns_later HO3.out ha4) ⟨v3.heap.size, 0, none⟩ 1 1 [(⟨ep, kd, (t1, t2), pl, .slice x1 l1.length y1, .slice x2 l2.length y2, (i1, i2), cd, l1, l2⟩ : Ev)] rfl rfl (news_one Ev.cells (⟨ep, kd, (t1, t2), pl, .slice x1 l1.length y1, .slice x2 l2.length y2, (i1, i2), cd, l1, l2⟩ : Ev) HNEW.out rfl) (evs_one' (w := v3) (L := [(⟨ep, kd, (t1, t2), pl, .slice x1 l1.length y1, .slice x2 l2.length y2, (i1, i2), cd, l1, l2⟩ : Ev)]) (fun e he => by simp only [List.mem_cons, List.not_mem_nil, or_false] at he; subst he; exact HX.out)) (by decide) (by omega) (Nat.zero_le _) ?_
  intro vv v5 ho5 hg5 hv5
  obtain ⟨va, vn, vc, rfl⟩ := owns_slice ho5
  have hfin := Lg.append HL3.out HX.out HG3.out HOB.out hg5 ho5 hv5 (w := w) (by rw [HP.out]; exact HB3.out) (by rw [HP.out]; exact HGL.out)
  obtain ⟨hg6, hl6, hk6, hb6⟩ := hfin
  have hpb : v5.heap[p]? = some (.cells #[.int .u64 ep, .int .i64 kd, .int .i64 t1, .int .u64 t2, .bool pl, .slice a1 n1 c1, .slice a2 n2 c2, .int .i64 i1, .int .u64 i2, .int .i64 cd] 45) := (hg5.block p (by have := (Array.getElem?_eq_some_iff.1 HN4.out).1; exact this) (fun e => by have t := (HL3.out.tags).2 p (HOB.out.symm.trans e.symm); have := HPO.out p (HOB.out.symm.trans e.symm); omega)).trans HN4.out
  have hc5 : v5.cell? ⟨g, 0, none⟩ = some (.slice la' L.length lc') := cell_of_heap hg6 rfl
  have f5 : v5.frozen? ⟨g, 0, none⟩ = false := frozen_of_row v5 g 0 _ 77 hg6
  have HFIN : Hid (Lg (v5.setCell ⟨g, 0, none⟩ (.slice va vn vc)) g (Value.slice va vn vc).ownBlock (L ++ [(⟨ep, kd, (t1, t2), pl, .slice x1 l1.length y1, .slice x2 l2.length y2, (i1, i2), cd, l1, l2⟩ : Ev)]) ∧ Kp w (v5.setCell ⟨g, 0, none⟩ (.slice va vn vc)) g ob ∧ ((Value.slice va vn vc).ownBlock = ob ∨ ∃ k, (Value.slice va vn vc).ownBlock = some k ∧ w.heap.size ≤ k)) := ⟨hl6, hk6, hb6⟩
  show K (Act.put _ (some 33) (.slice va vn vc)) v5
  clear ho5 hg5 hv5 hl6 hk6 hb6
  refine hK.out _ _ ?_ (fun hHeld => ?_)
  · exact fun _ => ⟨hc5, ten_cells hpb⟩
  replace hHeld := hHeld (by kernel_rfl)
  clear hK K
  try simp only [Act.put, List.setIfInBounds_toArray, List.set_cons_zero, List.set_cons_succ]
  refine letz_one (i := 9) (by kernel_rfl) rfl (fun K hK => ?_)
  go_simp
  refine hK.out _ _ ?_ (fun hHeld => ?_)
  · exact fun _ => ⟨hc5, ten_cells hpb⟩
  replace hHeld := hHeld (by kernel_rfl)
  clear hK K
  try simp only [Act.put, List.setIfInBounds_toArray, List.set_cons_zero, List.set_cons_succ]
  refine letz_one (i := 10) (by kernel_rfl) rfl (fun K hK => ?_)
  go_simp
  refine hK.out _ _ ?_ (fun hHeld => ?_)
  · exact fun _ => ⟨hc5, ten_cells hpb⟩
  replace hHeld := hHeld (by kernel_rfl)
  clear hK K
  try simp only [Act.put, List.setIfInBounds_toArray, List.set_cons_zero, List.set_cons_succ]
  refine letz_one (i := 11) (by kernel_rfl) rfl (fun K hK => ?_)
  go_simp
  refine hK.out _ _ ?_ (fun hHeld => ?_)
  · exact fun h => absurd h (by decide)
  clear hHeld
  clear hK K
  try simp only [Act.put, List.setIfInBounds_toArray, List.set_cons_zero, List.set_cons_succ]
  refine letz_done (by kernel_rfl) ?_ _
  refine NoPanic.normal ?_
  go_wp2
  go_ret
  exact ⟨rfl, _, _, _, _, _, HFIN.out.1, HFIN.out.2.1, HFIN.out.2.2, HU.out.1, HU.out.2⟩
end Go.Proofs.Ytlefaicdcomkjaa
