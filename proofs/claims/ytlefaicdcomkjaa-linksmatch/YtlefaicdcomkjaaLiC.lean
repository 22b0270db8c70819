/- An entry with lists of its own: a contract. -/
import Derived.Test.YtlefaicdcomkjaaLiB
import Derived.Test.YtlefaicdcomkjaaDzB
import Derived.Deep.RegionHeld3
namespace Go.Proofs.Ytlefaicdcomkjaa
open Go Go.RowKit
set_option linter.unusedVariables false
set_option linter.unusedSimpArgs false

set_option maxRecDepth 100000 in
set_option maxHeartbeats 8000000 in
theorem own_cells (ep kd t1 t2 : Int) (pl : Bool) (a1 : Option Addr) (n1 c1 : Nat) (a2 : Option Addr) (n2 c2 : Nat) (i1 i2 cd : Int) (l1 : List Rdv) (l2 : List Wrv) (w : World)
    (h1 : w.ownsRow 0 95 2 (.slice a1 n1 c1) l1.length (l1.flatMap Rdv.cells)) (h2 : w.ownsRow 0 98 3 (.slice a2 n2 c2) l2.length (l2.flatMap Wrv.cells)) (e1 : n1 = l1.length) (e2 : n2 = l2.length) (hl1 : l1.length ≤ 1000) (hl2 : l2.length ≤ 1000) :
    Calls Try.prog 36 #[.agg #[.int .u64 ep, .int .i64 kd, .int .i64 t1, .int .u64 t2, .bool pl, .slice a1 n1 c1, .slice a2 n2 c2, .int .i64 i1, .int .u64 i2, .int .i64 cd]] w fun e w' => (∃ x1 y1 z1 x2 y2 z2, e = .returned (.agg #[.int .u64 ep, .int .i64 kd, .int .i64 t1, .int .u64 t2, .bool pl, .slice x1 y1 z1, .slice x2 y2 z2, .int .i64 i1, .int .u64 i2, .int .i64 cd]) ∧ w'.ownsRow w.heap.size 95 2 (.slice x1 y1 z1) l1.length (l1.flatMap Rdv.cells) ∧ w'.ownsRow w.heap.size 98 3 (.slice x2 y2 z2) l2.length (l2.flatMap Wrv.cells) ∧ (a1 = none → Value.slice x1 y1 z1 = .slice none 0 0) ∧ (a2 = none → Value.slice x2 y2 z2 = .slice none 0 0)) ∧ Below w.heap.size w w' := by
  have hb0 : Below w.heap.size w ((w.alloc (.cells #[.int .u64 ep, .int .i64 kd, .int .i64 t1, .int .u64 t2, .bool pl, .slice a1 n1 c1, .slice a2 n2 c2, .int .i64 i1, .int .u64 i2, .int .i64 cd] 45)).alloc (.cells #[.int .u64 0, .int .i64 0, .int .i64 0, .int .u64 0, .bool false, .slice none 0 0, .slice none 0 0, .int .i64 0, .int .u64 0, .int .i64 0] 45)) := ((Below.refl _ _).alloc (Nat.le_refl _) _).alloc (by simp) _
  have hn : ((w.alloc (.cells #[.int .u64 ep, .int .i64 kd, .int .i64 t1, .int .u64 t2, .bool pl, .slice a1 n1 c1, .slice a2 n2 c2, .int .i64 i1, .int .u64 i2, .int .i64 cd] 45)).alloc (.cells #[.int .u64 0, .int .i64 0, .int .i64 0, .int .u64 0, .bool false, .slice none 0 0, .slice none 0 0, .int .i64 0, .int .u64 0, .int .i64 0] 45)).heap[w.heap.size]? = some (.cells #[.int .u64 ep, .int .i64 kd, .int .i64 t1, .int .u64 t2, .bool pl, .slice a1 n1 c1, .slice a2 n2 c2, .int .i64 i1, .int .u64 i2, .int .i64 cd] 45) := (heap_alloc_old _ _ (by simp)).trans (heap_alloc_new w _)
  have hz : ((w.alloc (.cells #[.int .u64 ep, .int .i64 kd, .int .i64 t1, .int .u64 t2, .bool pl, .slice a1 n1 c1, .slice a2 n2 c2, .int .i64 i1, .int .u64 i2, .int .i64 cd] 45)).alloc (.cells #[.int .u64 0, .int .i64 0, .int .i64 0, .int .u64 0, .bool false, .slice none 0 0, .slice none 0 0, .int .i64 0, .int .u64 0, .int .i64 0] 45)).heap[w.heap.size + 1]? = some (.cells #[.int .u64 0, .int .i64 0, .int .i64 0, .int .u64 0, .bool false, .slice none 0 0, .slice none 0 0, .int .i64 0, .int .u64 0, .int .i64 0] 45) := by
    have := heap_alloc_new (w.alloc (.cells #[.int .u64 ep, .int .i64 kd, .int .i64 t1, .int .u64 t2, .bool pl, .slice a1 n1 c1, .slice a2 n2 c2, .int .i64 i1, .int .u64 i2, .int .i64 cd] 45)) (.cells #[.int .u64 0, .int .i64 0, .int .i64 0, .int .u64 0, .bool false, .slice none 0 0, .slice none 0 0, .int .i64 0, .int .u64 0, .int .i64 0] 45)
    rwa [World.size_alloc] at this
  have HR1 : Hid (At Rdv.cells ((w.alloc (.cells #[.int .u64 ep, .int .i64 kd, .int .i64 t1, .int .u64 t2, .bool pl, .slice a1 n1 c1, .slice a2 n2 c2, .int .i64 i1, .int .u64 i2, .int .i64 cd] 45)).alloc (.cells #[.int .u64 0, .int .i64 0, .int .i64 0, .int .u64 0, .bool false, .slice none 0 0, .slice none 0 0, .int .i64 0, .int .u64 0, .int .i64 0] 45)) a1 l1) := (At.of h1).later hb0
  have HR2 : Hid (At Wrv.cells ((w.alloc (.cells #[.int .u64 ep, .int .i64 kd, .int .i64 t1, .int .u64 t2, .bool pl, .slice a1 n1 c1, .slice a2 n2 c2, .int .i64 i1, .int .u64 i2, .int .i64 cd] 45)).alloc (.cells #[.int .u64 0, .int .i64 0, .int .i64 0, .int .u64 0, .bool false, .slice none 0 0, .slice none 0 0, .int .i64 0, .int .u64 0, .int .i64 0] 45)) a2 l2) := (At.of h2).later hb0
  have HE1 : Hid (n1 = l1.length) := e1
  have HE2 : Hid (n2 = l2.length) := e2
  clear h1 h2 e1 e2
  go_enter Try.func36, Try.ntmps36
  go_upto_region 1 with fail
  generalize hv : ((w.alloc (.cells #[.int .u64 ep, .int .i64 kd, .int .i64 t1, .int .u64 t2, .bool pl, .slice a1 n1 c1, .slice a2 n2 c2, .int .i64 i1, .int .u64 i2, .int .i64 cd] 45)).alloc (.cells #[.int .u64 0, .int .i64 0, .int .i64 0, .int .u64 0, .bool false, .slice none 0 0, .slice none 0 0, .int .i64 0, .int .u64 0, .int .i64 0] 45)) = v1 at *
  clear hv
  generalize hp : w.heap.size = p at *
  have HB : Hid (Below p w v1) := hb0
  have HN : Hid (v1.heap[p]? = some (.cells #[.int .u64 ep, .int .i64 kd, .int .i64 t1, .int .u64 t2, .bool pl, .slice a1 n1 c1, .slice a2 n2 c2, .int .i64 i1, .int .u64 i2, .int .i64 cd] 45)) := hn
  have HZ : Hid (v1.heap[p + 1]? = some (.cells #[.int .u64 0, .int .i64 0, .int .i64 0, .int .u64 0, .bool false, .slice none 0 0, .slice none 0 0, .int .i64 0, .int .u64 0, .int .i64 0] 45)) := hz
  have HP : Hid (w.heap.size = p) := hp
  clear hb0 hn hz hp
  refine wp_region_noPanic ?_
  refine wp_region_letz 10 (fun w' => w'.cell? ⟨p, 5, none⟩ = some (.slice a1 n1 c1) ∧ w'.cell? ⟨p, 6, none⟩ = some (.slice a2 n2 c2)) (by kernel_rfl) ?_ (fun hHeld => ?_)
  · exact ⟨cell_of_heap (w := _) (show v1.drew.heap[p]? = _ from HN.out) rfl, cell_of_heap (w := _) (show v1.drew.heap[p]? = _ from HN.out) rfl⟩
  refine letz_take (i := 0) (d := 3) (v := ?_) rfl rfl (by kernel_rfl) (by kernel_rfl) (by kernel_rfl) (by kernel_rfl) (fun _ _ _ h => h) (Or.inl ⟨by rfl, ?_⟩) hHeld ?_
  rotate_left
  · (intro w hSw; (try dsimp only at hSw); go_simp; all_goals (with_reducible rfl))
  try simp only [Act.put, List.setIfInBounds_toArray, List.set_cons_zero, List.set_cons_succ]
  refine letz_take (i := 1) (d := 4) (v := ?_) rfl rfl (by kernel_rfl) (by kernel_rfl) (by kernel_rfl) (by kernel_rfl) (fun _ _ _ h => h) (Or.inl ⟨by rfl, ?_⟩) hHeld ?_
  rotate_left
  · (intro w hSw; (try dsimp only at hSw); go_simp; all_goals (with_reducible rfl))
  try simp only [Act.put, List.setIfInBounds_toArray, List.set_cons_zero, List.set_cons_succ]
  refine letz_take (i := 2) (d := 5) (v := ?_) rfl rfl (by kernel_rfl) (by kernel_rfl) (by kernel_rfl) (by kernel_rfl) (fun _ _ _ h => h) (Or.inl ⟨by rfl, ?_⟩) hHeld ?_
  rotate_left
  · (intro w hSw; (try dsimp only at hSw); go_simp; all_goals (with_reducible rfl))
  try simp only [Act.put, List.setIfInBounds_toArray, List.set_cons_zero, List.set_cons_succ]
  refine letz_take (i := 4) (d := 7) (v := ?_) rfl rfl (by kernel_rfl) (by kernel_rfl) (by kernel_rfl) (by kernel_rfl) (fun _ _ _ h => h) (Or.inl ⟨by rfl, ?_⟩) hHeld ?_
  rotate_left
  · (intro w hSw; (try dsimp only at hSw); go_simp; all_goals (with_reducible rfl))
  try simp only [Act.put, List.setIfInBounds_toArray, List.set_cons_zero, List.set_cons_succ]
  refine letz_take (i := 5) (d := 8) (v := ?_) rfl rfl (by kernel_rfl) (by kernel_rfl) (by kernel_rfl) (by kernel_rfl) (fun _ _ _ h => h) (Or.inl ⟨by rfl, ?_⟩) hHeld ?_
  rotate_left
  · (intro w hSw; (try dsimp only at hSw); go_simp; all_goals (with_reducible rfl))
  try simp only [Act.put, List.setIfInBounds_toArray, List.set_cons_zero, List.set_cons_succ]
  refine letz_take (i := 6) (d := 9) (v := ?_) rfl rfl (by kernel_rfl) (by kernel_rfl) (by kernel_rfl) (by kernel_rfl) (fun _ _ _ h => h) (Or.inl ⟨by rfl, ?_⟩) hHeld ?_
  rotate_left
  · (intro w hSw; (try dsimp only at hSw); go_simp; all_goals (with_reducible rfl))
  try simp only [Act.put, List.setIfInBounds_toArray, List.set_cons_zero, List.set_cons_succ]
  refine letz_one (i := 3) (by kernel_rfl) rfl (fun K hK => ?_)
  go_simp
  refine (cloneR_any a1 n1 c1 l1 v1.drew (HR1.out.later (Below.refl _ _).drew) HE1.out (by omega)).mono ?_
  rintro e v2 ⟨⟨u, rfl, ho, hu⟩, hb2⟩
  obtain ⟨x1, y1, z1, rfl⟩ := owns_slice ho
  have HN2 : Hid (v2.heap[p]? = some (.cells #[.int .u64 ep, .int .i64 kd, .int .i64 t1, .int .u64 t2, .bool pl, .slice a1 n1 c1, .slice a2 n2 c2, .int .i64 i1, .int .u64 i2, .int .i64 cd] 45)) := keepc hb2 (show v1.drew.heap[p]? = _ from HN.out)
  have HZ2 : Hid (v2.heap[p + 1]? = some (.cells #[.int .u64 0, .int .i64 0, .int .i64 0, .int .u64 0, .bool false, .slice none 0 0, .slice none 0 0, .int .i64 0, .int .u64 0, .int .i64 0] 45)) := keepc hb2 (show v1.drew.heap[p + 1]? = _ from HZ.out)
  have hs1 : p + 1 < v1.heap.size := (Array.getElem?_eq_some_iff.1 HZ.out).1
  have HB2 : Hid (Below p w v2) := HB.out.drew.trans (hb2.mono (by simp only [World.size_drew]; omega))
  have HO1 : Hid (v2.ownsRow (p + 2) 95 2 (.slice x1 y1 z1) l1.length (l1.flatMap Rdv.cells)) := owns_mono ho (by simp only [World.size_drew]; omega)
  have HU1 : Hid (a1 = none → Value.slice x1 y1 z1 = .slice none 0 0) := hu
  have HR3 : Hid (At Wrv.cells v2 a2 l2) := (HR2.out.later (Below.refl _ _).drew).later hb2
  clear ho hu hb2 HN HZ HB HR1 HR2
  go_wp2_with fail
  refine hK.out _ _ ?_ (fun hHeld => ?_)
  · exact fun _ => ⟨cell_of_heap (w := _) HN2.out rfl, cell_of_heap (w := _) HN2.out rfl⟩
  replace hHeld := hHeld (by kernel_rfl)
  clear hK K
  try simp only [Act.put, List.setIfInBounds_toArray, List.set_cons_zero, List.set_cons_succ]
  refine letz_take2 9 (i := 8) (d := 11) (v := ?_) rfl rfl (by kernel_rfl) (by kernel_rfl) (by kernel_rfl) (by kernel_rfl) (fun _ _ _ h => h) (Or.inl ⟨by rfl, ?_⟩) hHeld ?_
  rotate_left
  · (intro w hSw; (try dsimp only at hSw); go_simp; all_goals (with_reducible rfl))
  try simp only [Act.put, List.setIfInBounds_toArray, List.set_cons_zero, List.set_cons_succ]
  refine letz_take (i := 9) (d := 12) (v := ?_) rfl rfl (by kernel_rfl) (by kernel_rfl) (by kernel_rfl) (by kernel_rfl) (fun _ _ _ h => h) (Or.inl ⟨by rfl, ?_⟩) hHeld ?_
  rotate_left
  · (intro w hSw; (try dsimp only at hSw); go_simp; all_goals (with_reducible rfl))
  try simp only [Act.put, List.setIfInBounds_toArray, List.set_cons_zero, List.set_cons_succ]
  refine letz_one (i := 7) (by kernel_rfl) rfl (fun K hK => ?_)
  go_simp
  refine (cloneW_any a2 n2 c2 l2 v2 HR3.out HE2.out (by omega)).mono ?_
  rintro e v3 ⟨⟨u, rfl, ho, hu⟩, hb3⟩
  obtain ⟨x2, y2, z2, rfl⟩ := owns_slice ho
  have HN3 : Hid (v3.heap[p]? = some (.cells #[.int .u64 ep, .int .i64 kd, .int .i64 t1, .int .u64 t2, .bool pl, .slice a1 n1 c1, .slice a2 n2 c2, .int .i64 i1, .int .u64 i2, .int .i64 cd] 45)) := keepc hb3 HN2.out
  have HZ3 : Hid (v3.heap[p + 1]? = some (.cells #[.int .u64 0, .int .i64 0, .int .i64 0, .int .u64 0, .bool false, .slice none 0 0, .slice none 0 0, .int .i64 0, .int .u64 0, .int .i64 0] 45)) := keepc hb3 HZ2.out
  have hs2 : p + 1 < v2.heap.size := (Array.getElem?_eq_some_iff.1 HZ2.out).1
  have HB3 : Hid (Below p w v3) := HB2.out.trans (hb3.mono (by omega))
  have HO2 : Hid (v3.ownsRow (p + 2) 95 2 (.slice x1 y1 z1) l1.length (l1.flatMap Rdv.cells)) := owns_later HO1.out hb3
  have HO3 : Hid (v3.ownsRow (p + 2) 98 3 (.slice x2 y2 z2) l2.length (l2.flatMap Wrv.cells)) := owns_mono ho (by omega)
  have HU2 : Hid (a2 = none → Value.slice x2 y2 z2 = .slice none 0 0) := hu
  clear ho hu hb3 HN2 HZ2 HB2 HR3 HO1
  go_wp2_with fail
  refine hK.out _ _ ?_ (fun hHeld => ?_)
  · exact fun _ => ⟨cell_of_heap (w := _) HN3.out rfl, cell_of_heap (w := _) HN3.out rfl⟩
  replace hHeld := hHeld (by kernel_rfl)
  clear hK K
  try simp only [Act.put, List.setIfInBounds_toArray, List.set_cons_zero, List.set_cons_succ]
  obtain ⟨q0, q1, q2, q3, q4, q5, q6, q7, q8, q9⟩ := ten_cells HN3.out
  have f5 := ten_frozen HN3.out 5
  have f6 := ten_frozen HN3.out 6
  have HN4 : Hid ((v3.setCell ⟨p, 5, none⟩ (.slice x1 y1 z1)).heap[p]? = some (.cells #[.int .u64 ep, .int .i64 kd, .int .i64 t1, .int .u64 t2, .bool pl, .slice x1 y1 z1, .slice a2 n2 c2, .int .i64 i1, .int .u64 i2, .int .i64 cd] 45)) := heap_setCell_same _ _ 5 _ 45 _ HN3.out
  have HN5 : Hid (((v3.setCell ⟨p, 5, none⟩ (.slice x1 y1 z1)).setCell ⟨p, 6, none⟩ (.slice x2 y2 z2)).heap[p]? = some (.cells #[.int .u64 ep, .int .i64 kd, .int .i64 t1, .int .u64 t2, .bool pl, .slice x1 y1 z1, .slice x2 y2 z2, .int .i64 i1, .int .u64 i2, .int .i64 cd] 45)) := heap_setCell_same _ _ 6 _ 45 _ HN4.out
  have HZ5 : Hid (((v3.setCell ⟨p, 5, none⟩ (.slice x1 y1 z1)).setCell ⟨p, 6, none⟩ (.slice x2 y2 z2)).heap[p + 1]? = some (.cells #[.int .u64 0, .int .i64 0, .int .i64 0, .int .u64 0, .bool false, .slice none 0 0, .slice none 0 0, .int .i64 0, .int .u64 0, .int .i64 0] 45)) := ((Below.heap_setCell _ _ _ _ (by simp)).trans (Below.heap_setCell _ _ _ _ (by simp))).trans HZ3.out
  have HB5 : Hid (Below p w ((v3.setCell ⟨p, 5, none⟩ (.slice x1 y1 z1)).setCell ⟨p, 6, none⟩ (.slice x2 y2 z2))) := (HB3.out.setCell (p := ⟨p, 5, none⟩) (Nat.le_refl _) _).setCell (p := ⟨p, 6, none⟩) (Nat.le_refl _) _
  have HO5 : Hid (((v3.setCell ⟨p, 5, none⟩ (.slice x1 y1 z1)).setCell ⟨p, 6, none⟩ (.slice x2 y2 z2)).ownsRow (p + 2) 95 2 (.slice x1 y1 z1) l1.length (l1.flatMap Rdv.cells) ∧ ((v3.setCell ⟨p, 5, none⟩ (.slice x1 y1 z1)).setCell ⟨p, 6, none⟩ (.slice x2 y2 z2)).ownsRow (p + 2) 98 3 (.slice x2 y2 z2) l2.length (l2.flatMap Wrv.cells)) := by
    have t4 := (Fr.setCell (base := 0) (T := [45]) (a := ⟨p, 5, none⟩) (.slice x1 y1 z1) (Nat.zero_le _) (by simp) (tagOf_heap HN3.out))
    have t5 := (Fr.setCell (base := 0) (T := [45]) (a := ⟨p, 6, none⟩) (.slice x2 y2 z2) (Nat.zero_le _) (by simp) (tagOf_heap HN4.out))
    exact ⟨(t4.trans t5).owns HO2.out (by decide), (t4.trans t5).owns HO3.out (by decide)⟩
  obtain ⟨g0, g1, g2, g3, g4, g5, g6, g7, g8, g9⟩ := ten_cells HN4.out
  have k6 := ten_frozen HN4.out 6
  refine letz_one (i := 10) (by kernel_rfl) rfl (fun K hK => ?_)
  go_simp
  refine hK.out _ _ ?_ (fun hHeld => ?_)
  · exact fun h => absurd h (by decide)
  clear hHeld
  clear hK K
  try simp only [Act.put, List.setIfInBounds_toArray, List.set_cons_zero, List.set_cons_succ]
  refine letz_one (i := 11) (by kernel_rfl) rfl (fun K hK => ?_)
  go_simp
  refine hK.out _ _ ?_ (fun hHeld => ?_)
  · exact fun h => absurd h (by decide)
  skip
  clear hK K
  try simp only [Act.put, List.setIfInBounds_toArray, List.set_cons_zero, List.set_cons_succ]
  refine letz_one (i := 12) (by kernel_rfl) rfl (fun K hK => ?_)
  go_simp
  refine hK.out _ _ ?_ (fun hHeld => ?_)
  · exact fun h => absurd h (by decide)
  clear hHeld
  clear hK K
  try simp only [Act.put, List.setIfInBounds_toArray, List.set_cons_zero, List.set_cons_succ]
  refine letz_one (i := 13) (by kernel_rfl) rfl (fun K hK => ?_)
  go_simp
  refine hK.out _ _ ?_ (fun hHeld => ?_)
  · exact fun h => absurd h (by decide)
  clear hHeld
  clear hK K
  try simp only [Act.put, List.setIfInBounds_toArray, List.set_cons_zero, List.set_cons_succ]
  refine letz_done (by kernel_rfl) ?_ _
  refine NoPanic.normal ?_
  clear q0 q1 q2 q3 q4 q5 q6 q7 q8 q9 f5 f6 g0 g1 g2 g3 g4 g5 g6 g7 g8 g9 k6 HN3 HZ3 HB3 HO2 HO3 HN4
  generalize ((v3.setCell ⟨p, 5, none⟩ (.slice x1 y1 z1)).setCell ⟨p, 6, none⟩ (.slice x2 y2 z2)) = w5 at *
  obtain ⟨q0, q1, q2, q3, q4, q5, q6, q7, q8, q9⟩ := ten_cells HN5.out
  obtain ⟨z0, z1', z2', z3, z4, z5, z6, z7, z8, z9⟩ := ten_cells HZ5.out
  have f0 := ten_frozen HZ5.out 0
  have f1 := ten_frozen HZ5.out 1
  have f2 := ten_frozen HZ5.out 2
  have f3 := ten_frozen HZ5.out 3
  have f4 := ten_frozen HZ5.out 4
  have f5 := ten_frozen HZ5.out 5
  have f6 := ten_frozen HZ5.out 6
  have f7 := ten_frozen HZ5.out 7
  have f8 := ten_frozen HZ5.out 8
  have f9 := ten_frozen HZ5.out 9
  have HPN : Hid (((((((((((w5.setCell ⟨p + 1, 0, none⟩ (.int .u64 ep)).setCell ⟨p + 1, 1, none⟩ (.int .i64 kd)).setCell ⟨p + 1, 2, none⟩ (.int .i64 t1)).setCell ⟨p + 1, 3, none⟩ (.int .u64 t2)).setCell ⟨p + 1, 4, none⟩ (.bool pl)).setCell ⟨p + 1, 5, none⟩ (.slice x1 y1 z1)).setCell ⟨p + 1, 6, none⟩ (.slice x2 y2 z2)).setCell ⟨p + 1, 7, none⟩ (.int .i64 i1)).setCell ⟨p + 1, 8, none⟩ (.int .u64 i2)).setCell ⟨p + 1, 9, none⟩ (.int .i64 cd)).heap[p + 1]? = some (.cells #[.int .u64 ep, .int .i64 kd, .int .i64 t1, .int .u64 t2, .bool pl, .slice x1 y1 z1, .slice x2 y2 z2, .int .i64 i1, .int .u64 i2, .int .i64 cd] 45)) := ten_put HZ5.out
  have HPB : Hid (Below p w ((((((((((w5.setCell ⟨p + 1, 0, none⟩ (.int .u64 ep)).setCell ⟨p + 1, 1, none⟩ (.int .i64 kd)).setCell ⟨p + 1, 2, none⟩ (.int .i64 t1)).setCell ⟨p + 1, 3, none⟩ (.int .u64 t2)).setCell ⟨p + 1, 4, none⟩ (.bool pl)).setCell ⟨p + 1, 5, none⟩ (.slice x1 y1 z1)).setCell ⟨p + 1, 6, none⟩ (.slice x2 y2 z2)).setCell ⟨p + 1, 7, none⟩ (.int .i64 i1)).setCell ⟨p + 1, 8, none⟩ (.int .u64 i2)).setCell ⟨p + 1, 9, none⟩ (.int .i64 cd))) := below_put10 HB5.out (by simp) _ _ _ _ _ _ _ _ _ _
  have HPF : Hid (((((((((((w5.setCell ⟨p + 1, 0, none⟩ (.int .u64 ep)).setCell ⟨p + 1, 1, none⟩ (.int .i64 kd)).setCell ⟨p + 1, 2, none⟩ (.int .i64 t1)).setCell ⟨p + 1, 3, none⟩ (.int .u64 t2)).setCell ⟨p + 1, 4, none⟩ (.bool pl)).setCell ⟨p + 1, 5, none⟩ (.slice x1 y1 z1)).setCell ⟨p + 1, 6, none⟩ (.slice x2 y2 z2)).setCell ⟨p + 1, 7, none⟩ (.int .i64 i1)).setCell ⟨p + 1, 8, none⟩ (.int .u64 i2)).setCell ⟨p + 1, 9, none⟩ (.int .i64 cd)).ownsRow (p + 2) 95 2 (.slice x1 y1 z1) l1.length (l1.flatMap Rdv.cells) ∧ ((((((((((w5.setCell ⟨p + 1, 0, none⟩ (.int .u64 ep)).setCell ⟨p + 1, 1, none⟩ (.int .i64 kd)).setCell ⟨p + 1, 2, none⟩ (.int .i64 t1)).setCell ⟨p + 1, 3, none⟩ (.int .u64 t2)).setCell ⟨p + 1, 4, none⟩ (.bool pl)).setCell ⟨p + 1, 5, none⟩ (.slice x1 y1 z1)).setCell ⟨p + 1, 6, none⟩ (.slice x2 y2 z2)).setCell ⟨p + 1, 7, none⟩ (.int .i64 i1)).setCell ⟨p + 1, 8, none⟩ (.int .u64 i2)).setCell ⟨p + 1, 9, none⟩ (.int .i64 cd)).ownsRow (p + 2) 98 3 (.slice x2 y2 z2) l2.length (l2.flatMap Wrv.cells)) := ⟨owns_put10 HO5.out.1 HZ5.out (by decide) _ _ _ _ _ _ _ _ _ _, owns_put10 HO5.out.2 HZ5.out (by decide) _ _ _ _ _ _ _ _ _ _⟩
  clear HN5 HZ5 HB5 HO5
  go_wp2
  generalize ((((((((((w5.setCell ⟨p + 1, 0, none⟩ (.int .u64 ep)).setCell ⟨p + 1, 1, none⟩ (.int .i64 kd)).setCell ⟨p + 1, 2, none⟩ (.int .i64 t1)).setCell ⟨p + 1, 3, none⟩ (.int .u64 t2)).setCell ⟨p + 1, 4, none⟩ (.bool pl)).setCell ⟨p + 1, 5, none⟩ (.slice x1 y1 z1)).setCell ⟨p + 1, 6, none⟩ (.slice x2 y2 z2)).setCell ⟨p + 1, 7, none⟩ (.int .i64 i1)).setCell ⟨p + 1, 8, none⟩ (.int .u64 i2)).setCell ⟨p + 1, 9, none⟩ (.int .i64 cd)) = w6 at *
  obtain ⟨y0, y1', y2', y3, y4, y5, y6, y7, y8, y9⟩ := ten_cells HPN.out
  refine bodyPost_ret (v := .agg #[.int .u64 ep, .int .i64 kd, .int .i64 t1, .int .u64 t2, .bool pl, .slice x1 y1 z1, .slice x2 y2 z2, .int .i64 i1, .int .u64 i2, .int .i64 cd]) (by simp [results, Try.results36, go_sem, y0, y1', y2', y3, y4, y5, y6, y7, y8, y9]) rfl ?_
  exact ⟨⟨_, _, _, _, _, _, rfl, owns_mono HPF.out.1 (by have := HP.out; omega), owns_mono HPF.out.2 (by have := HP.out; omega), HU1.out, HU2.out⟩, by rw [HP.out]; exact HPB.out⟩
/-- an entry as a value: its lists are its own -/
theorem own_any (e : Ev) (w : World) (h : e.mem w) :
    Calls Try.prog 36 #[evv e] w fun r w' => (∃ u1 u2, r = .returned (evv { e with v1 := u1, v2 := u2 }) ∧ (({ e with v1 := u1, v2 := u2 } : Ev).mem w') ∧ (e.v1 = .slice none 0 0 → u1 = .slice none 0 0) ∧ (e.v2 = .slice none 0 0 → u2 = .slice none 0 0)) ∧ Below w.heap.size w w' := by
  obtain ⟨ep, kd, ⟨t1, t2⟩, pl, v1, v2, ⟨i1, i2⟩, cd, l1, l2⟩ := e
  obtain ⟨h1, h2, h3, h4, h5⟩ := h
  simp only at h1 h2 h3 h4 h5
  obtain ⟨a1, c1, rfl, -⟩ := owns_at Rdv.cells 2 (fun _ => rfl) h1
  obtain ⟨a2, c2, rfl, -⟩ := owns_at Wrv.cells 3 (fun _ => rfl) h2
  refine (own_cells ep kd t1 t2 pl a1 l1.length c1 a2 l2.length c2 i1 i2 cd l1 l2 w h1 h2 rfl rfl h4 h5).mono ?_
  rintro r w' ⟨⟨x1, y1, z1, x2, y2, z2, rfl, ho1, ho2, hn1, hn2⟩, hb⟩
  exact ⟨⟨_, _, rfl, ⟨owns_mono ho1 (Nat.zero_le _), owns_mono ho2 (Nat.zero_le _), h3, h4, h5⟩, fun e => hn1 (by simp only [Value.slice.injEq] at e; exact e.1), fun e => hn2 (by simp only [Value.slice.injEq] at e; exact e.1)⟩, hb⟩
end Go.Proofs.Ytlefaicdcomkjaa
