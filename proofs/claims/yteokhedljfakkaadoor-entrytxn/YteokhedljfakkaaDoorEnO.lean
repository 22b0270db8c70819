/- slices.Concat of any rows; join, number. -/
import Derived.Test.YteokhedljfakkaaDoorOctB
import Derived.Test.YteokhedljfakkaaDoorVec
import Derived.Lib.AppendZerosOnto
namespace Go.Proofs.YteokhedljfakkaaDoor
open Go Go.RowKit
set_option linter.unusedVariables false
set_option linter.unusedSimpArgs false

abbrev RowE := Option Addr × Nat × Nat × List Nat
/-- rows that stand in memory, one behind the other -/
structure Rws (w : World) (g : Nat) (L : List RowE) : Prop where
  at_ : ∀ i a n c xs, L[i]? = some (a, n, c, xs) → w.cell? ⟨g, i, none⟩ = some (.slice a n c) ∧ Row w a n xs ∧ (a = none → c = 0)
def rowsB (L : List RowE) : List Nat := L.flatMap fun x => x.2.2.2
theorem rows_next {L : List RowE} {k : Nat} {x : RowE} (h : L[k]? = some x) : rowsB (L.take (k + 1)) = rowsB (L.take k) ++ x.2.2.2 := by
  obtain ⟨hk, rfl⟩ := List.getElem?_eq_some_iff.1 h
  unfold rowsB
  rw [List.take_succ_eq_append_getElem hk, List.flatMap_append]
  simp only [List.flatMap_cons, List.flatMap_nil, List.append_nil]
theorem rows_take (L : List RowE) (k : Nat) : (rowsB (L.take k)).length ≤ (rowsB L).length := by
  have h : rowsB L = rowsB (L.take k) ++ rowsB (L.drop k) := by
    unfold rowsB
    rw [← List.flatMap_append, List.take_append_drop]
  rw [h, List.length_append]
  omega

set_option maxHeartbeats 2000000 in
theorem grow_none (n : Nat) (w : World) (h0 : 0 < n) (hn : n ≤ 1000000) :
    Calls Tryd.prog 89 #[.slice none 0 0, .int .i64 (n : Nat)] w fun e w' => (∃ v, e = .returned v ∧ Own w' w.heap.size v []) ∧ Below w.heap.size w w' := by
  obtain ⟨i0, hi, hz0, hz1, hz2⟩ := info_parts Tryd.info_5
  have h1 : ¬ ((n : Int) < 0) := by omega
  have h4 : (n : Int) > 0 := by omega
  have hold : (Builtin.firstCells i0.size 0 (.slice none 0 0)).run Tryd.prog w.drew = .ok (([] : List Value)).toArray w.drew := run_firstCells_none w.drew i0.size 0 0 0
  have hrz : ∀ ty, (Builtin.append_ #[46, 3] ty #[.slice none 0 0, .int .i64 (n : Int)]).run Tryd.prog w =
      .ok (.slice (some ⟨w.heap.size, 0, none⟩) n (grownCap w n 0 5)) (w.drew.alloc (.cells (Builtin.zeroCells (Value.int .u8 0).cells n ++ Builtin.zeroCells (Value.int .u8 0).cells (grownCap w n 0 5 - n)) 5)) := fun ty => by
    have h := Lib.run_append_grow_zeros (P := Tryd.prog) w 46 3 ty 5 i0 (.int .u8 0) .i64 .i64 Tryd.underlying46 Tryd.underlying3 hi hz0 none 0 0 [] hold n h0 (by omega) (by omega) (by omega)
      (by rw [hz2]; omega) (by rw [hz2]; exact growslice_fits (by omega) (by omega))
    simpa using h
  have hGn : n ≤ grownCap w n 0 5 := grownCap_ge w _ _ _
  have hGm : grownCap w n 0 5 ≤ maxLen := grownCap_le_maxLen w n 0 5 (by unfold maxLen; omega)
  have hsz : (Builtin.zeroCells (Value.int .u8 0).cells n ++ Builtin.zeroCells (Value.int .u8 0).cells (grownCap w n 0 5 - n)).size = grownCap w n 0 5 := by
    simp [Builtin.zeroCells, Value.cells]; omega
  generalize grownCap w n 0 5 = G at *
  generalize (Builtin.zeroCells (Value.int .u8 0).cells n ++ Builtin.zeroCells (Value.int .u8 0).cells (G - n)) = C at *
  have hG63 : G ≤ 9223372036854775807 := by unfold maxLen at hGm; omega
  have HA : Hid ((w.drew.alloc (.cells C 5)).ownsRow w.heap.size 5 1 (.slice (some ⟨w.heap.size, 0, none⟩) 0 G) 0 []) := World.ownsRow_made w.drew C G (Nat.le_refl _) hGm (by rw [hsz]; omega)
  have HB : Hid (Below w.heap.size w (w.drew.alloc (.cells C 5))) := (Below.refl _ _).drew.alloc (Nat.le_refl _) _
  clear hold hsz hi hz0 hz1 hz2 hGm
  go_enter Tryd.func89, Tryd.ntmps89
  go_wp2_with (at_builtin; refine Lib.wpList_append_run _ rfl _ _ _ _ rfl _ _ rfl rfl _ _ (hrz _) ?_)
  all_goals (go_ret; exact ⟨⟨_, rfl, HA.out, by simp⟩, HB.out⟩)

set_option maxHeartbeats 4000000 in
set_option maxRecDepth 100000 in
theorem concat_rows (g K : Nat) (L : List RowE) (hK : L.length = K) (hK2 : K ≤ 1000) (w : World) (h : Rws w g L) (h0 : 0 < (rowsB L).length) (hm : (rowsB L).length ≤ 1000000) :
    Calls Tryd.prog 73 #[.slice (some ⟨g, 0, none⟩) K K] w fun e w' => (∃ v, e = .returned v ∧ Own w' w.heap.size v (rowsB L)) ∧ Below w.heap.size w w' := by
  have HX : Hid (Rws w g L) := h
  have HK : Hid (L.length = K) := hK
  have HLE : Hid (∀ k, (rowsB (L.take k)).length ≤ 1000000) := fun k => Nat.le_trans (rows_take L k) hm
  have HTK : Hid (rowsB (L.take K) = rowsB L) := by rw [Hid, List.take_of_length_le (by omega)]
  obtain ⟨T, hT⟩ : ∃ T, T = (rowsB L).length := ⟨_, rfl⟩
  rw [← hT] at h0 hm
  have HT : Hid (T = (rowsB L).length) := hT
  clear h hK hT
  go_enter Tryd.func73, Tryd.ntmps73
  go_wp2
  go_loopw [3, 11] (fun s i wr => ∃ k S : Nat, k ≤ K ∧ i = .int .i64 (k : Nat) ∧ s = .int .i64 (S : Nat) ∧ Hid (S = (rowsB (L.take k)).length ∧ ∃ q, wr = w.drewN q)) (fun _ i _ => K - (intOf i).toNat)
  case atStart => exact ⟨0, 0, by omega, rfl, rfl, by simp [rowsB], 0, rfl⟩
  case round =>
    obtain ⟨k, S, hk, rfl, rfl, HQ⟩ := hrel
    obtain ⟨hS, q, rfl⟩ := HQ.out
    by_cases hlt : k < K
    · have hkl : k < L.length := by rw [HK.out]; exact hlt
      obtain ⟨⟨a', n', c', zs⟩, hx⟩ : ∃ x, L[k]? = some x := ⟨_, List.getElem?_eq_getElem hkl⟩
      obtain ⟨q0, hr, -⟩ := HX.out.at_ k a' n' c' zs hx
      have hS1 : (rowsB (L.take (k + 1))).length = S + n' := by
        rw [rows_next hx, List.length_append, ← hS]
        show S + zs.length = _
        rw [hr.1]
      have hle := HLE.out (k + 1)
      have HS1 : Hid ((rowsB (L.take (k + 1))).length = S + n') := hS1
      rw [hS1] at hle
      clear hr hx hS hS1
      have t5 : ¬ (((S : Int) + (n' : Int)) < 0) := by omega
      have hk0 : (0 : Int) ≤ (k : Int) := by omega
      go_wp2
      go_roundw
      case rel => exact ⟨k + 1, S + n', by omega, by go_num, by go_num, HS1.out.symm, _, rfl⟩
      case measure => simp [intOf]; omega
    · obtain rfl : k = K := by omega
      have hST : S = T := by rw [hS, HTK.out, HT.out]
      subst hST
      have HGR := grow_none S (w.drewN q) h0 hm
      clear hS
      go_wp2_with fail
      refine HGR.mono ?_
      clear HGR
      rintro e w1 ⟨⟨v1, rfl, ho⟩, hb⟩
      have HO : Hid (Own w1 w.heap.size v1 []) := ho
      have HB : Hid (Below w.heap.size w w1) := (below_drewN (Below.refl _ _) q).trans hb
      clear ho hb
      go_wp2
      go_loopw [6, 27] (fun v i wr => ∃ j : Nat, j ≤ k ∧ i = .int .i64 (j : Nat) ∧ Hid (Own wr w.heap.size v (rowsB (L.take j)) ∧ Below w.heap.size w wr)) (fun _ i _ => k - (intOf i).toNat)
      case atStart => exact ⟨0, by omega, rfl, by simpa [rowsB] using HO.out, HB.out⟩
      case round =>
        obtain ⟨j, hj, rfl, HP⟩ := hrel
        by_cases hlt2 : j < k
        · have hjl : j < L.length := by rw [HK.out]; exact hlt2
          obtain ⟨⟨a', n', c', zs⟩, hx⟩ : ∃ x, L[j]? = some x := ⟨_, List.getElem?_eq_getElem hjl⟩
          obtain ⟨q0, hr, hz⟩ := HX.out.at_ j a' n' c' zs hx
          replace q0 : wr.cell? ⟨g, j, none⟩ = some (.slice a' n' c') := cell_later HP.out.2 q0
          have HR : Hid (Row wr a' n' zs ∧ (a' = none → c' = 0)) := ⟨hr.later HP.out.2, hz⟩
          have HS : Hid (rowsB (L.take (j + 1)) = rowsB (L.take j) ++ zs) := rows_next hx
          have hle : (rowsB (L.take j)).length + n' ≤ 140737488355328 := by
            have h1 := HLE.out (j + 1)
            rw [HS.out, List.length_append, hr.1] at h1
            omega
          have HLL : Hid ((rowsB (L.take j)).length + n' ≤ 140737488355328) := hle
          have hj0 : (0 : Int) ≤ (j : Int) := by omega
          clear hr hz hx hle
          generalize rowsB (L.take j) = S2 at *
          go_wp2_with (at_builtin; refine wp_append_row rfl _ _ rfl w.heap.size _ S2 rfl HP.out.1 a' n' c' zs rfl HR.out.1 HR.out.2 HLL.out HP.out.2.size ?_; intro v2 w2 ho2 hb2)
          go_roundw
          case rel => exact ⟨j + 1, by omega, by go_num, by rw [HS.out]; exact ho2, HP.out.2.trans hb2⟩
          case measure => simp [intOf]; omega
        · obtain rfl : j = k := by omega
          have HO9 : Hid (Own wr w.heap.size u6 (rowsB L)) := by have := HP.out.1; rw [HTK.out] at this; exact this
          have HB9 : Hid (Below w.heap.size w wr) := HP.out.2
          clear HP
          go_wp2
          go_ret
          exact ⟨⟨_, rfl, HO9.out⟩, HB9.out⟩

theorem join_rows (g K : Nat) (L : List RowE) (hK : L.length = K) (hK2 : K ≤ 1000) (w : World) (h : Rws w g L) (h0 : 0 < (rowsB L).length) (hm : (rowsB L).length ≤ 1000000) :
    Calls Tryd.prog 57 #[.slice (some ⟨g, 0, none⟩) K K] w fun e w' => (∃ v, e = .returned v ∧ Own w' w.heap.size v (rowsB L)) ∧ Below w.heap.size w w' := by
  have hcall := concat_rows g K L hK hK2 w h h0 hm
  generalize rowsB L = bs at *
  clear h h0 hm
  go_enter Tryd.func57, Tryd.ntmps57
  go_wp2_with fail
  refine hcall.mono ?_
  clear hcall
  rintro e w1 ⟨⟨v1, rfl, ho⟩, hb⟩
  have HO : Hid (Own w1 w.heap.size v1 bs ∧ Below w.heap.size w w1) := ⟨ho, hb⟩
  clear ho hb
  go_wp2
  go_ret
  exact ⟨⟨_, rfl, HO.out.1⟩, HO.out.2⟩

theorem Rws.two {w : World} {g : Nat} {a b : Option Addr} {n m c d : Nat} {xs ys : List Nat} {t : TypeId} (h : w.heap[g]? = some (.cells #[.slice a n c, .slice b m d] t))
    (ha : Row w a n xs ∧ (a = none → c = 0)) (hb : Row w b m ys ∧ (b = none → d = 0)) : Rws w g [(a, n, c, xs), (b, m, d, ys)] := by
  refine ⟨fun i a' n' c' xs' hi => ?_⟩
  rcases i with _ | _ | i
  · simp only [List.getElem?_cons_zero, Option.some.injEq, Prod.mk.injEq] at hi
    obtain ⟨rfl, rfl, rfl, rfl⟩ := hi
    exact ⟨cell_of_heap h rfl, ha.1, ha.2⟩
  · simp only [List.getElem?_cons_succ, List.getElem?_cons_zero, Option.some.injEq, Prod.mk.injEq] at hi
    obtain ⟨rfl, rfl, rfl, rfl⟩ := hi
    exact ⟨cell_of_heap h rfl, hb.1, hb.2⟩
  · simp at hi
theorem Rws.three {w : World} {g : Nat} {a b p : Option Addr} {n m c d q r : Nat} {xs ys zs : List Nat} {t : TypeId} (h : w.heap[g]? = some (.cells #[.slice a n c, .slice b m d, .slice p q r] t))
    (ha : Row w a n xs ∧ (a = none → c = 0)) (hb : Row w b m ys ∧ (b = none → d = 0)) (hp : Row w p q zs ∧ (p = none → r = 0)) : Rws w g [(a, n, c, xs), (b, m, d, ys), (p, q, r, zs)] := by
  refine ⟨fun i a' n' c' xs' hi => ?_⟩
  rcases i with _ | _ | _ | i
  · simp only [List.getElem?_cons_zero, Option.some.injEq, Prod.mk.injEq] at hi
    obtain ⟨rfl, rfl, rfl, rfl⟩ := hi
    exact ⟨cell_of_heap h rfl, ha.1, ha.2⟩
  · simp only [List.getElem?_cons_succ, List.getElem?_cons_zero, Option.some.injEq, Prod.mk.injEq] at hi
    obtain ⟨rfl, rfl, rfl, rfl⟩ := hi
    exact ⟨cell_of_heap h rfl, hb.1, hb.2⟩
  · simp only [List.getElem?_cons_succ, List.getElem?_cons_zero, Option.some.injEq, Prod.mk.injEq] at hi
    obtain ⟨rfl, rfl, rfl, rfl⟩ := hi
    exact ⟨cell_of_heap h rfl, hp.1, hp.2⟩
  · simp at hi
theorem join_two {w : World} {g : Nat} {a b : Option Addr} {n m c d : Nat} {xs ys : List Nat} {t : TypeId} (h : w.heap[g]? = some (.cells #[.slice a n c, .slice b m d] t))
    (ha : Row w a n xs ∧ (a = none → c = 0)) (hb : Row w b m ys ∧ (b = none → d = 0)) (h0 : 0 < (xs ++ ys).length) (hm : (xs ++ ys).length ≤ 1000000) :
    Calls Tryd.prog 57 #[.slice (some ⟨g, 0, none⟩) 2 2] w fun e w' => (∃ v, e = .returned v ∧ Own w' w.heap.size v (xs ++ ys)) ∧ Below w.heap.size w w' := by
  have e : rowsB [(a, n, c, xs), (b, m, d, ys)] = xs ++ ys := by simp [rowsB]
  have := join_rows g 2 _ rfl (by omega) w (Rws.two h ha hb) (by rw [e]; exact h0) (by rw [e]; exact hm)
  rw [e] at this
  exact this
theorem join_three {w : World} {g : Nat} {a b p : Option Addr} {n m c d q r : Nat} {xs ys zs : List Nat} {t : TypeId} (h : w.heap[g]? = some (.cells #[.slice a n c, .slice b m d, .slice p q r] t))
    (ha : Row w a n xs ∧ (a = none → c = 0)) (hb : Row w b m ys ∧ (b = none → d = 0)) (hp : Row w p q zs ∧ (p = none → r = 0)) (h0 : 0 < (xs ++ ys ++ zs).length) (hm : (xs ++ ys ++ zs).length ≤ 1000000) :
    Calls Tryd.prog 57 #[.slice (some ⟨g, 0, none⟩) 3 3] w fun e w' => (∃ v, e = .returned v ∧ Own w' w.heap.size v (xs ++ ys ++ zs)) ∧ Below w.heap.size w w' := by
  have e : rowsB [(a, n, c, xs), (b, m, d, ys), (p, q, r, zs)] = xs ++ ys ++ zs := by simp [rowsB]
  have := join_rows g 3 _ rfl (by omega) w (Rws.three h ha hb hp) (by rw [e]; exact h0) (by rw [e]; exact hm)
  rw [e] at this
  exact this

/-- an answer that is a row of bytes -/
def RowRet (w : World) (bs : List Nat) (e : Ending) (w' : World) : Prop := ∃ a n c, e = .returned (.slice a n c) ∧ (Row w' a n bs ∧ (a = none → c = 0)) ∧ Below w.heap.size w w'
theorem RowRet.of_own {w w' : World} {v : Value} {bs : List Nat} (h : Own w' w.heap.size v bs) (hb : Below w.heap.size w w') : RowRet w bs (.returned v) w' := by
  obtain ⟨a, n, c, rfl, hr, _, _, hz, _⟩ := h.slice
  exact ⟨a, n, c, rfl, ⟨hr, hz⟩, hb⟩
theorem enum_any (m : Nat) (w : World) (hm : m < 18446744073709551616) :
    Calls Tryd.prog 58 #[.int .u64 m] w (RowRet w (Oct.put m)) := by
  have hcall := put_any none 0 0 m [] w Row.empty (fun _ => rfl) (by omega) hm
  rw [List.nil_append] at hcall
  generalize Oct.put m = bs at *
  go_enter Tryd.func58, Tryd.ntmps58
  go_wp2_with fail
  refine hcall.mono ?_
  clear hcall
  rintro e w1 ⟨g, N, rfl, hr, -, -, hb⟩
  have HO : Hid (Row w1 (some ⟨g, 0, none⟩) N bs ∧ Below w.heap.size w w1) := ⟨hr, hb⟩
  clear hr hb
  go_wp2
  go_ret
  exact ⟨_, N, N, rfl, ⟨HO.out.1, by simp⟩, HO.out.2⟩
end Go.Proofs.YteokhedljfakkaaDoor
