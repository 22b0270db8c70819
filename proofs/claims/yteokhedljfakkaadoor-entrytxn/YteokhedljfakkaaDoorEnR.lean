/- An entry of kind 2 as bytes; the example. -/
import Derived.Test.YteokhedljfakkaaDoorEnQ
import Derived.Test.YteokhedljfakkaaDoorEnO
import Derived.Test.YteokhedljfakkaaDoorEnM
namespace Go.Proofs.YteokhedljfakkaaDoor
open Go Go.RowKit
set_option linter.unusedVariables false
set_option linter.unusedSimpArgs false

theorem eflag_any (f : Bool) (w : World) : Calls Tryd.prog 60 #[.bool f] w (RowRet w (Oct.put (bitN f))) := by
  cases f
  · have hcall := enum_any 0 w (by omega)
    go_enter Tryd.func60, Tryd.ntmps60
    go_wp2_with fail
    refine hcall.mono ?_
    clear hcall
    rintro e w1 ⟨a, n, c, rfl, hr, hb⟩
    have HO : Hid ((Row w1 a n (Oct.put (bitN false)) ∧ (a = none → c = 0)) ∧ Below w.heap.size w w1) := ⟨hr, hb⟩
    clear hr hb
    go_wp2
    go_ret
    exact ⟨_, _, _, rfl, HO.out.1, HO.out.2⟩
  · have hcall := enum_any 1 w (by omega)
    go_enter Tryd.func60, Tryd.ntmps60
    go_wp2_with fail
    refine hcall.mono ?_
    clear hcall
    rintro e w1 ⟨a, n, c, rfl, hr, hb⟩
    have HO : Hid ((Row w1 a n (Oct.put (bitN true)) ∧ (a = none → c = 0)) ∧ Below w.heap.size w w1) := ⟨hr, hb⟩
    clear hr hb
    go_wp2
    go_ret
    exact ⟨_, _, _, rfl, HO.out.1, HO.out.2⟩
theorem etext_any (s : ByteArray) (w : World) (hs : s.size ≤ 1000) : Calls Tryd.prog 61 #[.string s] w (RowRet w (textB s)) := by
  have hcall := text_any none 0 0 [] (bys s) w Row.empty (fun _ => rfl) (by omega) (bys_lt s) (by rw [bys_length]; omega)
  rw [List.nil_append, str_bys, bys_length] at hcall
  have HB : Hid (Oct.put s.size ++ bys s = textB s) := rfl
  rw [HB.out] at hcall
  generalize textB s = bs at *
  clear hs
  go_enter Tryd.func61, Tryd.ntmps61
  go_wp2_with fail
  refine hcall.mono ?_
  clear hcall
  rintro e w1 ⟨g, n, rfl, hr, -, -, hb⟩
  have HO : Hid (Row w1 (some ⟨g, 0, none⟩) n bs ∧ Below w.heap.size w w1) := ⟨hr, hb⟩
  clear hr hb
  go_wp2
  go_ret
  exact ⟨_, _, _, rfl, ⟨HO.out.1, by simp⟩, HO.out.2⟩
theorem put_len (n : Nat) : 1 ≤ (Oct.put n).length ∧ (Oct.put n).length ≤ 10 := Oct.putF_len 9 n
set_option maxRecDepth 100000 in
set_option maxHeartbeats 4000000 in
theorem idb_any (x : Id) (w : World) (h0 : 0 ≤ x.1) (h5 : x.1 < 9223372036854775808) (h1 : 0 ≤ x.2) (h2 : x.2 < 18446744073709551616) : Calls Tryd.prog 59 #[idv x] w (RowRet w (idB x)) := by
  obtain ⟨xc, xs⟩ := x
  simp only at h0 h5 h1 h2
  obtain ⟨cn, rfl⟩ : ∃ cn : Nat, xc = (cn : Int) := ⟨xc.toNat, by omega⟩
  obtain ⟨sn, rfl⟩ : ∃ sn : Nat, xs = (sn : Int) := ⟨xs.toNat, by omega⟩
  have HB : Hid (idB ((cn : Int), (sn : Int)) = Oct.put cn ++ Oct.put sn) := by simp [Hid, idB]
  have hb0 : Below w.heap.size w (w.alloc (.cells #[.int .i64 (cn : Nat), .int .u64 (sn : Nat)] 24)) := (Below.refl _ _).alloc (Nat.le_refl _) _
  have hn0 := heap_alloc_new w (.cells #[.int .i64 (cn : Nat), .int .u64 (sn : Nat)] 24)
  have hcv : IntKind.u64.wrap (cn : Int) = (cn : Int) := by simp [IntKind.wrap, IntKind.bits]; omega
  go_enter Tryd.func59, Tryd.ntmps59
  go_upto_region 1 with fail
  generalize w.alloc (.cells #[.int .i64 (cn : Nat), .int .u64 (sn : Nat)] 24) = w0 at *
  have HB0 : Hid (Below w.heap.size w w0) := hb0
  have x0 : w0.cell? ⟨w.heap.size, 0, none⟩ = some (.int .i64 (cn : Nat)) := cell_of_heap hn0 rfl
  have x1 : w0.cell? ⟨w.heap.size, 1, none⟩ = some (.int .u64 (sn : Nat)) := cell_of_heap hn0 rfl
  have HS : Hid (∀ w', Below w0.heap.size w0 w' → w'.cell? ⟨w.heap.size, 0, none⟩ = some (.int .i64 (cn : Nat)) ∧ w'.cell? ⟨w.heap.size, 1, none⟩ = some (.int .u64 (sn : Nat))) := fun w' hb => ⟨cell_later hb x0, cell_later hb x1⟩
  clear hb0 hn0 x0 x1
  refine wp_region_held_drew (S := (fun w' => w'.cell? ⟨w.heap.size, 0, none⟩ = some (.int .i64 (cn : Nat)) ∧ w'.cell? ⟨w.heap.size, 1, none⟩ = some (.int .u64 (sn : Nat)))) (by kernel_rfl) ?_ (fun hHeld => ?_)
  · exact HS.out _ (Below.refl _ _).drew
  have hu0 : Below w0.heap.size w0 w0.drew := (Below.refl _ _).drew
  refine held_take (i := 0) (d := 3) (v := ?_) rfl rfl (by kernel_rfl) (by kernel_rfl) (by kernel_rfl) (fun _ _ _ h => h) (Or.inl ⟨by rfl, ?_⟩) hHeld ?_
  rotate_left
  · (intro w hSw; (try dsimp only at hSw); go_simp; all_goals (with_reducible rfl))
  try simp only [Act.put, List.setIfInBounds_toArray, List.set_cons_zero, List.set_cons_succ]
  refine held_take (i := 1) (d := 4) (v := ?_) rfl rfl (by kernel_rfl) (by kernel_rfl) (by kernel_rfl) (fun _ _ _ h => h) (Or.inl ⟨by rfl, ?_⟩) hHeld ?_
  rotate_left
  · (intro w hSw; (try dsimp only at hSw); go_simp; all_goals (with_reducible rfl))
  try simp only [Act.put, List.setIfInBounds_toArray, List.set_cons_zero, List.set_cons_succ]
  refine held_take (i := 2) (d := 5) (v := ?_) rfl rfl (by kernel_rfl) (by kernel_rfl) (by kernel_rfl) (fun _ _ _ h => h) (Or.inl ⟨by rfl, ?_⟩) hHeld ?_
  rotate_left
  · (intro w hSw; (try dsimp only at hSw); go_simp; all_goals (with_reducible rfl))
  try simp only [Act.put, List.setIfInBounds_toArray, List.set_cons_zero, List.set_cons_succ]
  refine held_take (i := 4) (d := 7) (v := ?_) rfl rfl (by kernel_rfl) (by kernel_rfl) (by kernel_rfl) (fun _ _ _ h => h) (Or.inl ⟨by rfl, ?_⟩) hHeld ?_
  rotate_left
  · (intro w hSw; (try dsimp only at hSw); go_simp; all_goals (with_reducible rfl))
  try simp only [Act.put, List.setIfInBounds_toArray, List.set_cons_zero, List.set_cons_succ]
  refine held_take (i := 5) (d := 8) (v := ?_) rfl rfl (by kernel_rfl) (by kernel_rfl) (by kernel_rfl) (fun _ _ _ h => h) (Or.inl ⟨by rfl, ?_⟩) hHeld ?_
  rotate_left
  · (intro w hSw; (try dsimp only at hSw); go_simp; all_goals (with_reducible rfl))
  try simp only [Act.put, List.setIfInBounds_toArray, List.set_cons_zero, List.set_cons_succ]
  refine wpAnyH_ready (rs := [3]) (by kernel_rfl) (by simp) ?_
  refine AllReadyH.cons rfl (fun K hK => ?_) AllReadyH.nil
  go_simp
  have hq := enum_any cn w0.drew (by omega)
  refine hq.mono ?_
  clear hq
  rintro e u1 ⟨b1, n1, c1, rfl, hr1, hx1⟩
  have hu1 : Below w0.heap.size w0 u1 := hu0.trans (hx1.mono hu0.size)
  clear hx1
  go_wp2_with fail
  refine hK.out _ _ ?_ (fun hHeld => ?_)
  · exact HS.out _ hu1
  clear hK K
  try simp only [Act.put, List.setIfInBounds_toArray, List.set_cons_zero, List.set_cons_succ]
  refine wpAnyH_ready (rs := [6]) (by kernel_rfl) (by simp) ?_
  refine AllReadyH.cons rfl (fun K hK => ?_) AllReadyH.nil
  go_simp
  have hq := enum_any sn u1 (by omega)
  refine hq.mono ?_
  clear hq
  rintro e u2 ⟨b2, n2, c2, rfl, hr2, hx2⟩
  replace hr1 : Row u2 b1 n1 (Oct.put cn) ∧ (b1 = none → c1 = 0) := ⟨hr1.1.later hx2, hr1.2⟩
  have hu2 : Below w0.heap.size w0 u2 := hu1.trans (hx2.mono hu1.size)
  clear hx2
  go_wp2_with fail
  refine hK.out _ _ ?_ (fun hHeld => ?_)
  · exact HS.out _ hu2
  clear hK K
  try simp only [Act.put, List.setIfInBounds_toArray, List.set_cons_zero, List.set_cons_succ]
  have hzb : Below u2.heap.size u2 (u2.alloc (.cells #[.slice b1 n1 c1, .slice b2 n2 c2] 46)) := (Below.refl _ _).alloc (Nat.le_refl _) _
  have hzn := heap_alloc_new u2 (.cells #[.slice b1 n1 c1, .slice b2 n2 c2] 46)
  have huz : Below w0.heap.size w0 (u2.alloc (.cells #[.slice b1 n1 c1, .slice b2 n2 c2] 46)) := hu2.trans (hzb.mono hu2.size)
  refine wpAnyH_ready (rs := [7]) (by kernel_rfl) (by simp) ?_
  refine AllReadyH.cons rfl (fun K hK => ?_) AllReadyH.nil
  go_simp
  refine hK.out _ _ ?_ (fun hHeld => ?_)
  · exact HS.out _ huz
  clear hK K
  try simp only [Act.put, List.setIfInBounds_toArray, List.set_cons_zero, List.set_cons_succ]
  have hj := join_two hzn (⟨hr1.1.later hzb, hr1.2⟩) (⟨hr2.1.later hzb, hr2.2⟩) (by rw [List.length_append]; have := put_len cn; omega) (by rw [List.length_append]; have := put_len cn; have := put_len sn; omega)
  generalize u2.alloc (.cells #[.slice b1 n1 c1, .slice b2 n2 c2] 46) = uz at *
  clear hzn hzb
  refine wpAnyH_ready (rs := [8]) (by kernel_rfl) (by simp) ?_
  refine AllReadyH.cons rfl (fun K hK => ?_) AllReadyH.nil
  go_simp
  refine hj.mono ?_
  clear hj
  rintro e w9 ⟨⟨v9, rfl, ho9⟩, hx9⟩
  obtain ⟨a9, n9, c9, rfl⟩ : ∃ a n c, v9 = .slice a n c := by obtain ⟨a, n, c, e, -⟩ := ho9.slice; exact ⟨_, _, _, e⟩
  have HJ : Hid (Own w9 w0.heap.size (.slice a9 n9 c9) ((Oct.put cn) ++ (Oct.put sn)) ∧ Below w0.heap.size w0 w9) := ⟨ho9.mono huz.size, huz.trans (hx9.mono huz.size)⟩
  clear ho9 hx9
  go_wp2_with fail
  refine hK.out _ _ ?_ (fun hHeld => ?_)
  · exact HS.out _ HJ.out.2
  clear hK K
  try simp only [Act.put, List.setIfInBounds_toArray, List.set_cons_zero, List.set_cons_succ]
  refine held_take (i := 9) (d := 2) (v := ?_) rfl rfl (by kernel_rfl) (by kernel_rfl) (by kernel_rfl) (fun _ _ _ h => h) (Or.inl ⟨by rfl, ?_⟩) hHeld ?_
  rotate_left
  · (intro w hSw; (try dsimp only at hSw); go_simp; all_goals (with_reducible rfl))
  try simp only [Act.put, List.setIfInBounds_toArray, List.set_cons_zero, List.set_cons_succ]
  refine wpAnyH_done (by kernel_rfl) ?_ _
  clear hHeld
  go_wp2
  go_ret
  rw [HB.out]
  exact RowRet.of_own (HJ.out.1.mono HB0.out.size) (HB0.out.trans (HJ.out.2.mono HB0.out.size))
theorem idB_len (x : Id) : 2 ≤ (idB x).length ∧ (idB x).length ≤ 20 := by
  unfold idB
  rw [List.length_append]
  have := put_len x.1.toNat
  have := put_len x.2.toNat
  omega
abbrev env (ep kd : Int) (tid : Id) (plain : Bool) (v1 v2 : Value) (id : Id) (code : Int) : Value := .agg #[.int .u64 ep, .int .i64 kd, .int .i64 tid.1, .int .u64 tid.2, .bool plain, v1, v2, .int .i64 id.1, .int .u64 id.2, .int .i64 code]
set_option maxRecDepth 100000 in
set_option maxHeartbeats 8000000 in
/-- Put of a right entry of kind 2 -/
theorem putFin_any (ep : Nat) (tid : Id) (plain : Bool) (b1 : Nat) (a1 : Option Addr) (n1 c1 : Nat) (a2 : Option Addr) (n2 c2 : Nat) (l1 : List Rdv) (l2 : List Wrv) (id : Id) (code : Nat) (w : World) (h : Tx w b1 a1 n1 c1 a2 n2 c2 l1 l2)
    (hr : rentry ep 2 tid plain l1 l2 id code = true) (he : ep < 18446744073709551616) (h0 : 0 ≤ id.1) (h5 : id.1 < 9223372036854775808) (h1 : 0 ≤ id.2) (h2 : id.2 < 18446744073709551616) (hc : code < 100) :
    Calls Tryd.prog 33 #[env ep 2 tid plain (.slice a1 n1 c1) (.slice a2 n2 c2) id code] w fun e w' => (∃ v, e = .returned (.tuple #[v, .int .i64 0]) ∧ Own w' w.heap.size v (Oct.put ep ++ Oct.put 2 ++ idB id ++ Oct.put code)) ∧ Below w.heap.size w w' := by
  obtain ⟨ic, is⟩ := id
  obtain ⟨tc, ts⟩ := tid
  simp only at h0 h5 h1 h2
  have hb0 : Below w.heap.size w (w.alloc (.cells #[.int .u64 (ep : Nat), .int .i64 2, .int .i64 tc, .int .u64 ts, .bool plain, .slice a1 n1 c1, .slice a2 n2 c2, .int .i64 ic, .int .u64 is, .int .i64 (code : Nat)] 37)) := (Below.refl _ _).alloc (Nat.le_refl _) _
  have hn0 := heap_alloc_new w (.cells #[.int .u64 (ep : Nat), .int .i64 2, .int .i64 tc, .int .u64 ts, .bool plain, .slice a1 n1 c1, .slice a2 n2 c2, .int .i64 ic, .int .u64 is, .int .i64 (code : Nat)] 37)
  have hcall := wrong_any ep 2 (tc, ts) plain b1 a1 n1 c1 a2 n2 c2 l1 l2 (ic, is) code _ (h.later hb0)
  rw [hr] at hcall
  clear h hr
  have hcv : IntKind.u64.wrap (code : Int) = (code : Int) := by simp [IntKind.wrap, IntKind.bits]; omega
  go_enter Tryd.func33, Tryd.ntmps33
  go_wp2_with fail
  generalize w.alloc (.cells #[.int .u64 (ep : Nat), .int .i64 2, .int .i64 tc, .int .u64 ts, .bool plain, .slice a1 n1 c1, .slice a2 n2 c2, .int .i64 ic, .int .u64 is, .int .i64 (code : Nat)] 37) = w0 at *
  refine hcall.mono ?_
  clear hcall
  rintro e w1 ⟨⟨r, rfl, hir⟩, hb1⟩
  obtain rfl := hir.1 rfl
  clear hir
  have hn1 := keepc hb1 hn0
  have HB1 : Hid (Below w.heap.size w w1) := hb0.trans (hb1.mono hb0.size)
  clear hb0 hb1 hn0
  obtain ⟨x0, x1, x2, x3, x4, x5, x6, x7, x8, x9⟩ := ten_cells hn1
  clear x2 x3 x4 x5 x6
  have HS : Hid (∀ w', Below w1.heap.size w1 w' → w'.cell? ⟨w.heap.size, 0, none⟩ = some (.int .u64 (ep : Nat)) ∧ w'.cell? ⟨w.heap.size, 1, none⟩ = some (.int .i64 2) ∧ w'.cell? ⟨w.heap.size, 7, none⟩ = some (.int .i64 ic) ∧ w'.cell? ⟨w.heap.size, 8, none⟩ = some (.int .u64 is) ∧ w'.cell? ⟨w.heap.size, 9, none⟩ = some (.int .i64 (code : Nat))) := fun w' hb => ⟨cell_later hb x0, cell_later hb x1, cell_later hb x7, cell_later hb x8, cell_later hb x9⟩
  clear x0 x1 x7 x8 x9 hn1
  go_upto_region 4 with fail
  refine wp_region_held_drew (S := (fun w' => w'.cell? ⟨w.heap.size, 0, none⟩ = some (.int .u64 (ep : Nat)) ∧ w'.cell? ⟨w.heap.size, 1, none⟩ = some (.int .i64 2) ∧ w'.cell? ⟨w.heap.size, 7, none⟩ = some (.int .i64 ic) ∧ w'.cell? ⟨w.heap.size, 8, none⟩ = some (.int .u64 is) ∧ w'.cell? ⟨w.heap.size, 9, none⟩ = some (.int .i64 (code : Nat)))) (by kernel_rfl) ?_ (fun hHeld => ?_)
  · exact HS.out _ (Below.refl _ _).drew
  have hu0 : Below w1.heap.size w1 w1.drew := (Below.refl _ _).drew
  refine held_take (i := 0) (d := 12) (v := ?_) rfl rfl (by kernel_rfl) (by kernel_rfl) (by kernel_rfl) (fun _ _ _ h => h) (Or.inl ⟨by rfl, ?_⟩) hHeld ?_
  rotate_left
  · (intro w hSw; (try dsimp only at hSw); go_simp; all_goals (with_reducible rfl))
  try simp only [Act.put, List.setIfInBounds_toArray, List.set_cons_zero, List.set_cons_succ]
  refine held_take (i := 1) (d := 13) (v := ?_) rfl rfl (by kernel_rfl) (by kernel_rfl) (by kernel_rfl) (fun _ _ _ h => h) (Or.inl ⟨by rfl, ?_⟩) hHeld ?_
  rotate_left
  · (intro w hSw; (try dsimp only at hSw); go_simp; all_goals (with_reducible rfl))
  try simp only [Act.put, List.setIfInBounds_toArray, List.set_cons_zero, List.set_cons_succ]
  refine held_take (i := 3) (d := 15) (v := ?_) rfl rfl (by kernel_rfl) (by kernel_rfl) (by kernel_rfl) (fun _ _ _ h => h) (Or.inl ⟨by rfl, ?_⟩) hHeld ?_
  rotate_left
  · (intro w hSw; (try dsimp only at hSw); go_simp; all_goals (with_reducible rfl))
  try simp only [Act.put, List.setIfInBounds_toArray, List.set_cons_zero, List.set_cons_succ]
  refine held_take (i := 4) (d := 16) (v := ?_) rfl rfl (by kernel_rfl) (by kernel_rfl) (by kernel_rfl) (fun _ _ _ h => h) (Or.inl ⟨by rfl, ?_⟩) hHeld ?_
  rotate_left
  · (intro w hSw; (try dsimp only at hSw); go_simp; all_goals (with_reducible rfl))
  try simp only [Act.put, List.setIfInBounds_toArray, List.set_cons_zero, List.set_cons_succ]
  refine held_take (i := 5) (d := 17) (v := ?_) rfl rfl (by kernel_rfl) (by kernel_rfl) (by kernel_rfl) (fun _ _ _ h => h) (Or.inl ⟨by rfl, ?_⟩) hHeld ?_
  rotate_left
  · (intro w hSw; (try dsimp only at hSw); go_simp; all_goals (with_reducible rfl))
  try simp only [Act.put, List.setIfInBounds_toArray, List.set_cons_zero, List.set_cons_succ]
  refine wpAnyH_ready (rs := [2]) (by kernel_rfl) (by simp) ?_
  refine AllReadyH.cons rfl (fun K hK => ?_) AllReadyH.nil
  go_simp
  have hq := enum_any ep w1.drew (by omega)
  refine hq.mono ?_
  clear hq
  rintro e u1 ⟨b1, n1, c1, rfl, hr1, hx1⟩
  have hu1 : Below w1.heap.size w1 u1 := hu0.trans (hx1.mono hu0.size)
  clear hx1
  go_wp2_with fail
  refine hK.out _ _ ?_ (fun hHeld => ?_)
  · exact HS.out _ hu1
  clear hK K
  try simp only [Act.put, List.setIfInBounds_toArray, List.set_cons_zero, List.set_cons_succ]
  refine wpAnyH_ready (rs := [6]) (by kernel_rfl) (by simp) ?_
  refine AllReadyH.cons rfl (fun K hK => ?_) AllReadyH.nil
  go_simp
  have hq := enum_any 2 u1 (by omega)
  refine hq.mono ?_
  clear hq
  rintro e u2 ⟨b2, n2, c2, rfl, hr2, hx2⟩
  replace hr1 : Row u2 b1 n1 (Oct.put ep) ∧ (b1 = none → c1 = 0) := ⟨hr1.1.later hx2, hr1.2⟩
  have hu2 : Below w1.heap.size w1 u2 := hu1.trans (hx2.mono hu1.size)
  clear hx2
  go_wp2_with fail
  refine hK.out _ _ ?_ (fun hHeld => ?_)
  · exact HS.out _ hu2
  clear hK K
  try simp only [Act.put, List.setIfInBounds_toArray, List.set_cons_zero, List.set_cons_succ]
  have hzb : Below u2.heap.size u2 (u2.alloc (.cells #[.slice b1 n1 c1, .slice b2 n2 c2] 46)) := (Below.refl _ _).alloc (Nat.le_refl _) _
  have hzn := heap_alloc_new u2 (.cells #[.slice b1 n1 c1, .slice b2 n2 c2] 46)
  have huz : Below w1.heap.size w1 (u2.alloc (.cells #[.slice b1 n1 c1, .slice b2 n2 c2] 46)) := hu2.trans (hzb.mono hu2.size)
  refine wpAnyH_ready (rs := [7]) (by kernel_rfl) (by simp) ?_
  refine AllReadyH.cons rfl (fun K hK => ?_) AllReadyH.nil
  go_simp
  refine hK.out _ _ ?_ (fun hHeld => ?_)
  · exact HS.out _ huz
  clear hK K
  try simp only [Act.put, List.setIfInBounds_toArray, List.set_cons_zero, List.set_cons_succ]
  have hj := join_two hzn (⟨hr1.1.later hzb, hr1.2⟩) (⟨hr2.1.later hzb, hr2.2⟩) (by rw [List.length_append]; have := put_len ep; omega) (by rw [List.length_append]; have := put_len ep; have := put_len 2; omega)
  generalize u2.alloc (.cells #[.slice b1 n1 c1, .slice b2 n2 c2] 46) = uz at *
  clear hzn hzb
  refine wpAnyH_ready (rs := [8]) (by kernel_rfl) (by simp) ?_
  refine AllReadyH.cons rfl (fun K hK => ?_) AllReadyH.nil
  go_simp
  refine hj.mono ?_
  clear hj
  rintro e w9 ⟨⟨v9, rfl, ho9⟩, hx9⟩
  obtain ⟨a9, n9, c9, rfl⟩ : ∃ a n c, v9 = .slice a n c := by obtain ⟨a, n, c, e, -⟩ := ho9.slice; exact ⟨_, _, _, e⟩
  have HJ : Hid (Own w9 w1.heap.size (.slice a9 n9 c9) ((Oct.put ep) ++ (Oct.put 2)) ∧ Below w1.heap.size w1 w9) := ⟨ho9.mono huz.size, huz.trans (hx9.mono huz.size)⟩
  clear ho9 hx9
  go_wp2_with fail
  refine hK.out _ _ ?_ (fun hHeld => ?_)
  · exact HS.out _ HJ.out.2
  clear hK K
  try simp only [Act.put, List.setIfInBounds_toArray, List.set_cons_zero, List.set_cons_succ]
  refine held_take (i := 9) (d := 5) (v := ?_) rfl rfl (by kernel_rfl) (by kernel_rfl) (by kernel_rfl) (fun _ _ _ h => h) (Or.inl ⟨by rfl, ?_⟩) hHeld ?_
  rotate_left
  · (intro w hSw; (try dsimp only at hSw); go_simp; all_goals (with_reducible rfl))
  try simp only [Act.put, List.setIfInBounds_toArray, List.set_cons_zero, List.set_cons_succ]
  refine wpAnyH_done (by kernel_rfl) ?_ _
  clear hHeld
  have hrow : Row w9 a9 n9 (Oct.put ep ++ Oct.put 2) ∧ (a9 = none → c9 = 0) := by
    obtain ⟨a, n, c, e, hr, _, _, hz, _⟩ := HJ.out.1.slice
    simp only [Value.slice.injEq] at e
    obtain ⟨rfl, rfl, rfl⟩ := e
    exact ⟨hr, hz⟩
  have HRW : Hid (Row w9 a9 n9 (Oct.put ep ++ Oct.put 2) ∧ (a9 = none → c9 = 0)) := hrow
  have HB9 : Hid (Below w.heap.size w w9) := HB1.out.trans (HJ.out.2.mono HB1.out.size)
  have HSO : Hid (∀ w', Below w9.heap.size w9 w' → w'.cell? ⟨w.heap.size, 0, none⟩ = some (.int .u64 (ep : Nat)) ∧ w'.cell? ⟨w.heap.size, 1, none⟩ = some (.int .i64 2) ∧ w'.cell? ⟨w.heap.size, 7, none⟩ = some (.int .i64 ic) ∧ w'.cell? ⟨w.heap.size, 8, none⟩ = some (.int .u64 is) ∧ w'.cell? ⟨w.heap.size, 9, none⟩ = some (.int .i64 (code : Nat))) := fun w' hb => HS.out _ (HJ.out.2.trans (hb.mono HJ.out.2.size))
  clear HS HJ hrow hu0 hu1 hu2 hr1 hr2 huz HB1
  generalize w9 = w2 at *
  generalize a9 = aq at *
  generalize n9 = nq at *
  generalize c9 = cq at *
  have HS := HSO
  clear HSO
  obtain ⟨x0, x1, x7, x8, x9⟩ := HS.out _ (Below.refl _ _)
  go_upto_region 7 with fail
  clear x0 x1 x7 x8 x9
  refine wp_region_held_drew (S := (fun w' => w'.cell? ⟨w.heap.size, 0, none⟩ = some (.int .u64 (ep : Nat)) ∧ w'.cell? ⟨w.heap.size, 1, none⟩ = some (.int .i64 2) ∧ w'.cell? ⟨w.heap.size, 7, none⟩ = some (.int .i64 ic) ∧ w'.cell? ⟨w.heap.size, 8, none⟩ = some (.int .u64 is) ∧ w'.cell? ⟨w.heap.size, 9, none⟩ = some (.int .i64 (code : Nat)))) (by kernel_rfl) ?_ (fun hHeld => ?_)
  · exact HS.out _ (Below.refl _ _).drew
  have hu0 : Below w2.heap.size w2 w2.drew := (Below.refl _ _).drew
  refine held_take (i := 0) (d := 28) (v := ?_) rfl rfl (by kernel_rfl) (by kernel_rfl) (by kernel_rfl) (fun _ _ _ h => h) (Or.inl ⟨by rfl, ?_⟩) hHeld ?_
  rotate_left
  · (intro w hSw; (try dsimp only at hSw); go_simp; all_goals (with_reducible rfl))
  try simp only [Act.put, List.setIfInBounds_toArray, List.set_cons_zero, List.set_cons_succ]
  refine held_take (i := 1) (d := 29) (v := ?_) rfl rfl (by kernel_rfl) (by kernel_rfl) (by kernel_rfl) (fun _ _ _ h => h) (Or.inl ⟨by rfl, ?_⟩) hHeld ?_
  rotate_left
  · (intro w hSw; (try dsimp only at hSw); go_simp; all_goals (with_reducible rfl))
  try simp only [Act.put, List.setIfInBounds_toArray, List.set_cons_zero, List.set_cons_succ]
  refine held_take (i := 2) (d := 30) (v := ?_) rfl rfl (by kernel_rfl) (by kernel_rfl) (by kernel_rfl) (fun _ _ _ h => h) (Or.inl ⟨by rfl, ?_⟩) hHeld ?_
  rotate_left
  · (intro w hSw; (try dsimp only at hSw); go_simp; all_goals (with_reducible rfl))
  try simp only [Act.put, List.setIfInBounds_toArray, List.set_cons_zero, List.set_cons_succ]
  refine held_take (i := 4) (d := 32) (v := ?_) rfl rfl (by kernel_rfl) (by kernel_rfl) (by kernel_rfl) (fun _ _ _ h => h) (Or.inl ⟨by rfl, ?_⟩) hHeld ?_
  rotate_left
  · (intro w hSw; (try dsimp only at hSw); go_simp; all_goals (with_reducible rfl))
  try simp only [Act.put, List.setIfInBounds_toArray, List.set_cons_zero, List.set_cons_succ]
  refine held_take (i := 5) (d := 33) (v := ?_) rfl rfl (by kernel_rfl) (by kernel_rfl) (by kernel_rfl) (fun _ _ _ h => h) (Or.inl ⟨by rfl, ?_⟩) hHeld ?_
  rotate_left
  · (intro w hSw; (try dsimp only at hSw); go_simp; all_goals (with_reducible rfl))
  try simp only [Act.put, List.setIfInBounds_toArray, List.set_cons_zero, List.set_cons_succ]
  refine held_take (i := 6) (d := 34) (v := ?_) rfl rfl (by kernel_rfl) (by kernel_rfl) (by kernel_rfl) (fun _ _ _ h => h) (Or.inl ⟨by rfl, ?_⟩) hHeld ?_
  rotate_left
  · (intro w hSw; (try dsimp only at hSw); go_simp; all_goals (with_reducible rfl))
  try simp only [Act.put, List.setIfInBounds_toArray, List.set_cons_zero, List.set_cons_succ]
  refine wpAnyH_ready (rs := [3]) (by kernel_rfl) (by simp) ?_
  refine AllReadyH.cons rfl (fun K hK => ?_) AllReadyH.nil
  go_simp
  have hq := idb_any (ic, is) w2.drew h0 h5 h1 h2
  refine hq.mono ?_
  clear hq
  rintro e u1 ⟨b1, n1, c1, rfl, hr1, hx1⟩
  have hu1 : Below w2.heap.size w2 u1 := hu0.trans (hx1.mono hu0.size)
  clear hx1
  go_wp2_with fail
  refine hK.out _ _ ?_ (fun hHeld => ?_)
  · exact HS.out _ hu1
  clear hK K
  try simp only [Act.put, List.setIfInBounds_toArray, List.set_cons_zero, List.set_cons_succ]
  refine wpAnyH_ready (rs := [7]) (by kernel_rfl) (by simp) ?_
  refine AllReadyH.cons rfl (fun K hK => ?_) AllReadyH.nil
  go_simp
  have hq := enum_any code u1 (by omega)
  refine hq.mono ?_
  clear hq
  rintro e u2 ⟨b2, n2, c2, rfl, hr2, hx2⟩
  replace hr1 : Row u2 b1 n1 (idB (ic, is)) ∧ (b1 = none → c1 = 0) := ⟨hr1.1.later hx2, hr1.2⟩
  have hu2 : Below w2.heap.size w2 u2 := hu1.trans (hx2.mono hu1.size)
  clear hx2
  go_wp2_with fail
  refine hK.out _ _ ?_ (fun hHeld => ?_)
  · exact HS.out _ hu2
  clear hK K
  try simp only [Act.put, List.setIfInBounds_toArray, List.set_cons_zero, List.set_cons_succ]
  have hzb : Below u2.heap.size u2 (u2.alloc (.cells #[.slice aq nq cq, .slice b1 n1 c1, .slice b2 n2 c2] 46)) := (Below.refl _ _).alloc (Nat.le_refl _) _
  have hzn := heap_alloc_new u2 (.cells #[.slice aq nq cq, .slice b1 n1 c1, .slice b2 n2 c2] 46)
  have huz : Below w2.heap.size w2 (u2.alloc (.cells #[.slice aq nq cq, .slice b1 n1 c1, .slice b2 n2 c2] 46)) := hu2.trans (hzb.mono hu2.size)
  refine wpAnyH_ready (rs := [8]) (by kernel_rfl) (by simp) ?_
  refine AllReadyH.cons rfl (fun K hK => ?_) AllReadyH.nil
  go_simp
  refine hK.out _ _ ?_ (fun hHeld => ?_)
  · exact HS.out _ huz
  clear hK K
  try simp only [Act.put, List.setIfInBounds_toArray, List.set_cons_zero, List.set_cons_succ]
  have hj := join_three hzn (⟨HRW.out.1.later huz, HRW.out.2⟩) (⟨hr1.1.later hzb, hr1.2⟩) (⟨hr2.1.later hzb, hr2.2⟩) (by simp only [List.length_append]; have := put_len ep; omega) (by simp only [List.length_append]; have := put_len ep; have := put_len 2; have := put_len code; have := idB_len (ic, is); omega)
  generalize u2.alloc (.cells #[.slice aq nq cq, .slice b1 n1 c1, .slice b2 n2 c2] 46) = uz at *
  clear hzn hzb
  refine wpAnyH_ready (rs := [9]) (by kernel_rfl) (by simp) ?_
  refine AllReadyH.cons rfl (fun K hK => ?_) AllReadyH.nil
  go_simp
  refine hj.mono ?_
  clear hj
  rintro e w9 ⟨⟨v9, rfl, ho9⟩, hx9⟩
  obtain ⟨a9, n9, c9, rfl⟩ : ∃ a n c, v9 = .slice a n c := by obtain ⟨a, n, c, e, -⟩ := ho9.slice; exact ⟨_, _, _, e⟩
  have HJ : Hid (Own w9 w2.heap.size (.slice a9 n9 c9) ((Oct.put ep ++ Oct.put 2) ++ (idB (ic, is)) ++ (Oct.put code)) ∧ Below w2.heap.size w2 w9) := ⟨ho9.mono huz.size, huz.trans (hx9.mono huz.size)⟩
  clear ho9 hx9
  go_wp2_with fail
  refine hK.out _ _ ?_ (fun hHeld => ?_)
  · exact HS.out _ HJ.out.2
  clear hK K
  try simp only [Act.put, List.setIfInBounds_toArray, List.set_cons_zero, List.set_cons_succ]
  refine held_take (i := 10) (d := 2) (v := ?_) rfl rfl (by kernel_rfl) (by kernel_rfl) (by kernel_rfl) (fun _ _ _ h => h) (Or.inl ⟨by rfl, ?_⟩) hHeld ?_
  rotate_left
  · (intro w hSw; (try dsimp only at hSw); go_simp; all_goals (with_reducible rfl))
  try simp only [Act.put, List.setIfInBounds_toArray, List.set_cons_zero, List.set_cons_succ]
  refine held_take (i := 11) (d := 3) (v := ?_) rfl rfl (by kernel_rfl) (by kernel_rfl) (by kernel_rfl) (fun _ _ _ h => h) (Or.inl ⟨by rfl, ?_⟩) hHeld ?_
  rotate_left
  · (intro w hSw; (try dsimp only at hSw); go_simp; all_goals (with_reducible rfl))
  try simp only [Act.put, List.setIfInBounds_toArray, List.set_cons_zero, List.set_cons_succ]
  refine wpAnyH_done (by kernel_rfl) ?_ _
  clear hHeld
  go_wp2
  refine bodyPost_ret (v := .tuple #[.slice a9 n9 c9, .int .i64 0]) (by simp [results, Tryd.results33, go_sem]) rfl ?_
  exact ⟨⟨_, rfl, HJ.out.1.mono HB9.out.size⟩, HB9.out.trans (HJ.out.2.mono HB9.out.size)⟩
set_option maxRecDepth 100000 in
set_option maxHeartbeats 4000000 in
theorem awake12_any (w : World) : Calls Tryd.prog 14 #[] w fun e w' => e = .returned (.bool true) ∧ Below w.heap.size w w' := by
  have hcall := putFin_any 1 (0, 0) false 0 none 0 0 none 0 0 [] [] (0, 1) 0 w ⟨World.ownsRow_nil _ _ _ _, World.ownsRow_nil _ _ _ _, ⟨by simp, by simp, by simp⟩, by simp, by simp, rfl, rfl⟩ (by decide) (by omega) (by omega) (by omega) (by omega) (by omega) (by omega)
  have e5 : Oct.put 1 ++ Oct.put 2 ++ idB (0, 1) ++ Oct.put 0 = [1, 2, 0, 1, 0] := by decide +kernel
  rw [e5] at hcall
  clear e5
  go_enter Tryd.func14, Tryd.ntmps14
  go_wp2_with fail
  refine hcall.mono ?_
  clear hcall
  rintro e w1 ⟨⟨v, rfl, ho⟩, hb⟩
  obtain ⟨a, n, c, rfl, hr, _⟩ := ho.slice
  have hcv := conv_row hr c
  have e6 : str [1, 2, 0, 1, 0] = ⟨#[1, 2, 0, 1, 0]⟩ := by decide +kernel
  rw [e6] at hcv
  clear hr ho e6
  have HB : Hid (Below w.heap.size w w1) := hb
  clear hb
  go_wp2
  go_ret
  exact ⟨rfl, HB.out⟩
end Go.Proofs.YteokhedljfakkaaDoor
