/- A transaction's bytes: the document's. -/
import Derived.Test.YteokhedljfakkaaDoorEnY
import Derived.Test.YteokhedljfakkaaDoorEnX
import Derived.Test.YteokhedljfakkaaDoorOctF
namespace Go.Proofs.YteokhedljfakkaaDoor
open Go Go.RowKit
set_option linter.unusedVariables false
set_option linter.unusedSimpArgs false

theorem rput_any (m : Nat) (w : World) (hm : m < 18446744073709551616) :
    Calls Tryd.prog 39 #[.int .u64 m] w fun e w' => (∃ a n c, e = .returned (.slice a n c) ∧ Own w' w.heap.size (.slice a n c) (Oct.put m)) ∧ Below w.heap.size w w' :=
  (ref_put_any 9 m w (by omega) (by show m < _; omega)).mono fun e w' ⟨g, n, c, h1, h2, h3⟩ => ⟨⟨_, _, _, h1, h2⟩, h3⟩
theorem put_small (n : Nat) (h : n < 128) : Oct.put n = [n] := by
  unfold Oct.put
  exact Oct.putF_small _ _ h
theorem rbit_any (f : Bool) (w : World) : Calls Tryd.prog 37 #[.bool f] w fun e w' => (∃ a n c, e = .returned (.slice a n c) ∧ Own w' w.heap.size (.slice a n c) (Oct.put (bitN f))) ∧ Below w.heap.size w w' := by
  cases f
  · have ho := Own.new w w.heap.size (Nat.le_refl _) #[.int .u8 0] [0] rfl (by simp) (by simp [maxLen])
    have hb : Below w.heap.size w (w.alloc (.cells #[.int .u8 0] 5)) := (Below.refl _ _).alloc (Nat.le_refl _) _
    have HF : Hid (Own (w.alloc (.cells #[.int .u8 0] 5)) w.heap.size (.slice (some ⟨w.heap.size, 0, none⟩) 1 1) (Oct.put (bitN false)) ∧ Below w.heap.size w (w.alloc (.cells #[.int .u8 0] 5))) := ⟨by rw [put_small _ (by decide)]; exact ho, hb⟩
    clear ho hb
    go_enter Tryd.func37, Tryd.ntmps37
    go_wp2
    go_ret
    exact ⟨⟨_, _, _, rfl, HF.out.1⟩, HF.out.2⟩
  · have ho := Own.new w w.heap.size (Nat.le_refl _) #[.int .u8 1] [1] rfl (by simp) (by simp [maxLen])
    have hb : Below w.heap.size w (w.alloc (.cells #[.int .u8 1] 5)) := (Below.refl _ _).alloc (Nat.le_refl _) _
    have HF : Hid (Own (w.alloc (.cells #[.int .u8 1] 5)) w.heap.size (.slice (some ⟨w.heap.size, 0, none⟩) 1 1) (Oct.put (bitN true)) ∧ Below w.heap.size w (w.alloc (.cells #[.int .u8 1] 5))) := ⟨by rw [put_small _ (by decide)]; exact ho, hb⟩
    clear ho hb
    go_enter Tryd.func37, Tryd.ntmps37
    go_wp2
    go_ret
    exact ⟨⟨_, _, _, rfl, HF.out.1⟩, HF.out.2⟩
set_option maxRecDepth 100000 in
set_option maxHeartbeats 4000000 in
theorem ridB_any (x : Id) (w : World) (h0 : 0 ≤ x.1) (h5 : x.1 < 9223372036854775808) (h1 : 0 ≤ x.2) (h2 : x.2 < 18446744073709551616) : Calls Tryd.prog 36 #[idv x] w fun e w' => (∃ a n c, e = .returned (.slice a n c) ∧ Own w' w.heap.size (.slice a n c) (idB x)) ∧ Below w.heap.size w w' := by
  obtain ⟨xc, xs⟩ := x
  simp only at h0 h5 h1 h2
  obtain ⟨cn, rfl⟩ : ∃ cn : Nat, xc = (cn : Int) := ⟨xc.toNat, by omega⟩
  obtain ⟨sn, rfl⟩ : ∃ sn : Nat, xs = (sn : Int) := ⟨xs.toNat, by omega⟩
  have HB : Hid (idB ((cn : Int), (sn : Int)) = Oct.put cn ++ Oct.put sn) := by simp [Hid, idB]
  have hb0 : Below w.heap.size w (w.alloc (.cells #[.int .i64 (cn : Nat), .int .u64 (sn : Nat)] 24)) := (Below.refl _ _).alloc (Nat.le_refl _) _
  have hn0 := heap_alloc_new w (.cells #[.int .i64 (cn : Nat), .int .u64 (sn : Nat)] 24)
  have hcv : IntKind.u64.wrap (cn : Int) = (cn : Int) := by simp [IntKind.wrap, IntKind.bits]; omega
  go_enter Tryd.func36, Tryd.ntmps36
  go_upto_region 1 with fail
  generalize w.alloc (.cells #[.int .i64 (cn : Nat), .int .u64 (sn : Nat)] 24) = w0 at *
  have HB0 : Hid (Below w.heap.size w w0) := hb0
  have x0 : w0.cell? ⟨w.heap.size, 0, none⟩ = some (.int .i64 (cn : Nat)) := cell_of_heap hn0 rfl
  have x1 : w0.cell? ⟨w.heap.size, 1, none⟩ = some (.int .u64 (sn : Nat)) := cell_of_heap hn0 rfl
  have HS : Hid (∀ w', Below w0.heap.size w0 w' → w'.cell? ⟨w.heap.size, 0, none⟩ = some (.int .i64 (cn : Nat)) ∧ w'.cell? ⟨w.heap.size, 1, none⟩ = some (.int .u64 (sn : Nat))) := fun w' hb => ⟨cell_later hb x0, cell_later hb x1⟩
  clear hb0 hn0 x0 x1
  refine wp_region_held_drew (S := (fun w' => w'.cell? ⟨w.heap.size, 0, none⟩ = some (.int .i64 (cn : Nat)) ∧ w'.cell? ⟨w.heap.size, 1, none⟩ = some (.int .u64 (sn : Nat)))) (by kernel_rfl) ?_ (fun hHeld => ?_)
  · exact HS.out _ (Below.refl _ _).drew
  have hu0 : Below w0.heap.size w0 w0.drew := (Below.refl _ _).drew
  refine held_take (i := 0) (d := 3) (v := ?_) rfl rfl (by kernel_rfl) (by kernel_rfl) (by kernel_rfl) (fun _ _ _ h => h) (Or.inl ⟨by rfl, ?_⟩) hHeld ?_
  rotate_left
  · (intro w hSw; (try dsimp only at hSw); go_simp; all_goals (with_reducible rfl))
  try simp only [Act.put, List.setIfInBounds_toArray, List.set_cons_zero, List.set_cons_succ]
  refine held_take (i := 1) (d := 4) (v := ?_) rfl rfl (by kernel_rfl) (by kernel_rfl) (by kernel_rfl) (fun _ _ _ h => h) (Or.inl ⟨by rfl, ?_⟩) hHeld ?_
  rotate_left
  · (intro w hSw; (try dsimp only at hSw); go_simp; all_goals (with_reducible rfl))
  try simp only [Act.put, List.setIfInBounds_toArray, List.set_cons_zero, List.set_cons_succ]
  refine held_take (i := 2) (d := 5) (v := ?_) rfl rfl (by kernel_rfl) (by kernel_rfl) (by kernel_rfl) (fun _ _ _ h => h) (Or.inl ⟨by rfl, ?_⟩) hHeld ?_
  rotate_left
  · (intro w hSw; (try dsimp only at hSw); go_simp; all_goals (with_reducible rfl))
  try simp only [Act.put, List.setIfInBounds_toArray, List.set_cons_zero, List.set_cons_succ]
  refine held_take (i := 4) (d := 7) (v := ?_) rfl rfl (by kernel_rfl) (by kernel_rfl) (by kernel_rfl) (fun _ _ _ h => h) (Or.inl ⟨by rfl, ?_⟩) hHeld ?_
  rotate_left
  · (intro w hSw; (try dsimp only at hSw); go_simp; all_goals (with_reducible rfl))
  try simp only [Act.put, List.setIfInBounds_toArray, List.set_cons_zero, List.set_cons_succ]
  refine held_take (i := 5) (d := 8) (v := ?_) rfl rfl (by kernel_rfl) (by kernel_rfl) (by kernel_rfl) (fun _ _ _ h => h) (Or.inl ⟨by rfl, ?_⟩) hHeld ?_
  rotate_left
  · (intro w hSw; (try dsimp only at hSw); go_simp; all_goals (with_reducible rfl))
  try simp only [Act.put, List.setIfInBounds_toArray, List.set_cons_zero, List.set_cons_succ]
  refine wpAnyH_ready (rs := [3]) (by kernel_rfl) (by simp) ?_
  refine AllReadyH.cons rfl (fun K hK => ?_) AllReadyH.nil
  go_simp
  have hq := rput_any cn w0.drew (by omega)
  refine hq.mono ?_
  clear hq
  rintro e u1 ⟨⟨ja, jn, jc, rfl, ho1⟩, hx⟩
  have hu1 : Below w0.heap.size w0 u1 := hu0.trans hx
  have HO1 : Hid (Own u1 w0.heap.size (.slice ja jn jc) (Oct.put cn)) := ho1
  clear ho1 hx
  go_wp2_with fail
  refine hK.out _ _ ?_ (fun hHeld => ?_)
  · exact HS.out _ hu1
  clear hK K
  try simp only [Act.put, List.setIfInBounds_toArray, List.set_cons_zero, List.set_cons_succ]
  refine wpAnyH_ready (rs := [6]) (by kernel_rfl) (by simp) ?_
  refine AllReadyH.cons rfl (fun K hK => ?_) AllReadyH.nil
  go_simp
  have hq := rput_any sn u1 (by omega)
  refine hq.mono ?_
  clear hq
  rintro e u2 ⟨⟨ka, kn, kc, rfl, ho2⟩, hx⟩
  have hu2 : Below w0.heap.size w0 u2 := hu1.trans (hx.mono hu1.size)
  have HO2 : Hid (Own u2 w0.heap.size (.slice ja jn jc) (Oct.put cn)) := HO1.out.later hx
  have hr2 : Row u2 ka kn (Oct.put sn) ∧ (ka = none → kc = 0) := by
    obtain ⟨a, n, c, e, hr, _, _, hz, _⟩ := ho2.slice
    simp only [Value.slice.injEq] at e
    obtain ⟨rfl, rfl, rfl⟩ := e
    exact ⟨hr, hz⟩
  clear ho2 hx HO1
  go_wp2_with fail
  refine hK.out _ _ ?_ (fun hHeld => ?_)
  · exact HS.out _ hu2
  clear hK K
  try simp only [Act.put, List.setIfInBounds_toArray, List.set_cons_zero, List.set_cons_succ]
  refine wpAnyH_ready (rs := [7]) (by kernel_rfl) (by simp) ?_
  refine AllReadyH.cons rfl (fun K hK => ?_) AllReadyH.nil
  refine step_append_row (by rfl) _ _ (by rfl) w0.heap.size _ (Oct.put cn) (by rfl) HO2.out ka kn kc (Oct.put sn) (by rfl) hr2.1 hr2.2 (by have h1 := hr2.1.1; have h2 := put_len cn; have h3 := put_len sn; omega) hu2.size ?_
  intro v9 w9 ho9 hb9
  obtain ⟨a9, n9, c9, rfl⟩ : ∃ a n c, v9 = .slice a n c := by obtain ⟨a, n, c, e, -⟩ := ho9.slice; exact ⟨_, _, _, e⟩
  have HA : Hid (Own w9 w0.heap.size (.slice a9 n9 c9) (Oct.put cn ++ Oct.put sn) ∧ Below w0.heap.size w0 w9) := ⟨ho9, hu2.trans hb9⟩
  show K (Act.put _ (some 10) (.slice a9 n9 c9)) w9
  clear ho9 hb9
  refine hK.out _ _ ?_ (fun hHeld => ?_)
  · exact HS.out _ HA.out.2
  clear hK K
  try simp only [Act.put, List.setIfInBounds_toArray, List.set_cons_zero, List.set_cons_succ]
  refine held_take (i := 8) (d := 2) (v := ?_) rfl rfl (by kernel_rfl) (by kernel_rfl) (by kernel_rfl) (fun _ _ _ h => h) (Or.inl ⟨by rfl, ?_⟩) hHeld ?_
  rotate_left
  · (intro w hSw; (try dsimp only at hSw); go_simp; all_goals (with_reducible rfl))
  try simp only [Act.put, List.setIfInBounds_toArray, List.set_cons_zero, List.set_cons_succ]
  refine wpAnyH_done (by kernel_rfl) ?_ _
  clear hHeld
  go_wp2
  go_ret
  rw [HB.out]
  exact ⟨⟨_, _, _, rfl, HA.out.1.mono HB0.out.size⟩, HB0.out.trans (HA.out.2.mono HB0.out.size)⟩
theorem clone_row (a : Option Addr) (n c : Nat) (bs : List Nat) (w : World) (hr : Row w a n bs) (hz : a = none → c = 0) (hm : n ≤ 100000) :
    Calls Tryd.prog 34 #[.slice a n c] w fun e w' => (∃ a n c, e = .returned (.slice a n c) ∧ Own w' w.heap.size (.slice a n c) bs) ∧ Below w.heap.size w w' := by
  have hnil : ∀ (w : World) (a : Option Addr) (l c : Nat), (binOp .eql 46 (.slice a l c) (.slice none 0 0)).run Tryd.prog w = .ok (.bool a.isNone) w := fun w a l c => Lib.run_eql_slice_nil w 46 5 a l c 0 0 Tryd.underlying46
  cases a with
  | none =>
    have hx : bs = [] := by
      rcases hr.2.2.2 with e | ⟨b, off, e, _⟩
      · exact e
      · cases e
    subst hx
    go_enter Tryd.func34, Tryd.ntmps34
    go_wp2
    go_ret
    exact ⟨⟨_, _, _, rfl, Own.nil _ _⟩, Below.refl _ _⟩
  | some ad =>
    have hb : Below w.heap.size w (w.alloc (.cells #[] 5)) := (Below.refl _ _).alloc (Nat.le_refl _) _
    have HO : Hid (Own (w.alloc (.cells #[] 5)) w.heap.size (.slice (some ⟨w.heap.size, 0, none⟩) 0 0) []) := Own.new w w.heap.size (Nat.le_refl _) #[] [] rfl (by simp) (by simp [maxLen])
    have HR : Hid (Row (w.alloc (.cells #[] 5)) (some ad) n bs) := hr.later hb
    have HB : Hid (Below w.heap.size w (w.alloc (.cells #[] 5))) := hb
    clear hr hb
    go_enter Tryd.func34, Tryd.ntmps34
    go_wp2_with (at_builtin; refine wp_append_row rfl _ _ rfl w.heap.size _ [] rfl HO.out (some ad) n c bs rfl HR.out (by simp) (by simp; omega) HB.out.size ?_; intro v2 w2 ho2 hb2; obtain ⟨a9, n9, c9, rfl⟩ : ∃ a n c, v2 = .slice a n c := (by obtain ⟨a, n, c, e, -⟩ := ho2.slice; exact ⟨_, _, _, e⟩); have HF : Hid (Own w2 w.heap.size (.slice a9 n9 c9) bs ∧ Below w.heap.size w w2) := ⟨ho2, HB.out.trans hb2⟩; clear ho2 hb2)
    go_ret
    exact ⟨⟨_, _, _, rfl, HF.out.1⟩, HF.out.2⟩
theorem txnBytes_let (id : Id) (plain : Bool) (b1 : Nat) (a1 : Option Addr) (n1 c1 : Nat) (a2 : Option Addr) (n2 c2 : Nat) (l1 : List Rdv) (l2 : List Wrv) (w : World) (h : Tx w b1 a1 n1 c1 a2 n2 c2 l1 l2) (hw : Wri id l1 l2) :
    Calls Tryd.prog 35 #[txnv id plain (.slice a1 n1 c1) (.slice a2 n2 c2)] w fun e w' => (∃ a n c, e = .returned (.slice a n c) ∧ Own w' w.heap.size (.slice a n c) (txnB id plain l1 l2)) ∧ Below w.heap.size w w' := by
  refine (txnBytes_any id plain b1 a1 n1 c1 a2 n2 c2 l1 l2 w h hw).mono ?_
  rintro e w' ⟨⟨v, rfl, ho⟩, hb⟩
  obtain ⟨a, n, c, rfl, -⟩ := ho.slice
  exact ⟨⟨a, n, c, rfl, ho⟩, hb⟩
theorem txnB_len (id : Id) (plain : Bool) (l1 : List Rdv) (l2 : List Wrv) (hw : Wri id l1 l2) : 4 ≤ (txnB id plain l1 l2).length ∧ (txnB id plain l1 l2).length ≤ 40000 := by
  have e : txnB id plain l1 l2 = txnH id plain l1.length ++ rdsB l1 ++ Oct.put l2.length ++ wrsB l2 := rfl
  have h1 := rdsB_len l1 (fun y hy => (hw.r y hy).1)
  have h2 := txnH_len id plain l1.length
  have h3 := wrsB_len l2 hw.w
  have h4 := put_len l2.length
  have h5 := hw.n1
  have h6 := hw.n2
  rw [e]
  simp only [List.length_append]
  omega
set_option maxRecDepth 100000 in
set_option maxHeartbeats 4000000 in
theorem ebytes_any (id : Id) (plain : Bool) (b1 : Nat) (a1 : Option Addr) (n1 c1 : Nat) (a2 : Option Addr) (n2 c2 : Nat) (l1 : List Rdv) (l2 : List Wrv) (ba : Option Addr) (bn bc : Nat) (bs : List Nat) (w : World) (h : Tx w b1 a1 n1 c1 a2 n2 c2 l1 l2) (hw : Wri id l1 l2) (hr : Row w ba bn bs) (hz : ba = none → bc = 0) (hm : bn ≤ 100000) :
    Calls Tryd.prog 17 #[txnv id plain (.slice a1 n1 c1) (.slice a2 n2 c2), .slice ba bn bc] w fun e w' => (∃ a n c, e = .returned (.slice a n c) ∧ Own w' w.heap.size (.slice a n c) (bs ++ txnB id plain l1 l2)) ∧ Below w.heap.size w w' := by
  obtain ⟨i1, i2⟩ := id
  have hb0 : Below w.heap.size w (w.alloc (.cells #[.int .i64 i1, .int .u64 i2, .bool plain, .slice a1 n1 c1, .slice a2 n2 c2] 35)) := (Below.refl _ _).alloc (Nat.le_refl _) _
  have hn0 := heap_alloc_new w (.cells #[.int .i64 i1, .int .u64 i2, .bool plain, .slice a1 n1 c1, .slice a2 n2 c2] 35)
  have hlen := txnB_len (i1, i2) plain l1 l2 hw
  have hbl := hr.1
  go_enter Tryd.func17, Tryd.ntmps17
  go_upto_region 1 with fail
  generalize w.alloc (.cells #[.int .i64 i1, .int .u64 i2, .bool plain, .slice a1 n1 c1, .slice a2 n2 c2] 35) = w0 at *
  have HT : Hid (Tx w0 b1 a1 n1 c1 a2 n2 c2 l1 l2) := h.later hb0
  have HR : Hid (Row w0 ba bn bs) := hr.later hb0
  have HB0 : Hid (Below w.heap.size w w0) := hb0
  obtain ⟨x0, x1, x2, x3, x4⟩ := five_cells hn0
  have HS : Hid (∀ w', Below w0.heap.size w0 w' → w'.cell? ⟨w.heap.size, 0, none⟩ = some (.int .i64 i1) ∧ w'.cell? ⟨w.heap.size, 1, none⟩ = some (.int .u64 i2) ∧ w'.cell? ⟨w.heap.size, 2, none⟩ = some (.bool plain) ∧ w'.cell? ⟨w.heap.size, 3, none⟩ = some (.slice a1 n1 c1) ∧ w'.cell? ⟨w.heap.size, 4, none⟩ = some (.slice a2 n2 c2)) := fun w' hb => ⟨cell_later hb x0, cell_later hb x1, cell_later hb x2, cell_later hb x3, cell_later hb x4⟩
  clear x0 x1 x2 x3 x4 hb0 hn0 h hr
  refine wp_region_held_drew (S := (fun w' => w'.cell? ⟨w.heap.size, 0, none⟩ = some (.int .i64 i1) ∧ w'.cell? ⟨w.heap.size, 1, none⟩ = some (.int .u64 i2) ∧ w'.cell? ⟨w.heap.size, 2, none⟩ = some (.bool plain) ∧ w'.cell? ⟨w.heap.size, 3, none⟩ = some (.slice a1 n1 c1) ∧ w'.cell? ⟨w.heap.size, 4, none⟩ = some (.slice a2 n2 c2))) (by kernel_rfl) ?_ (fun hHeld => ?_)
  · exact HS.out _ (Below.refl _ _).drew
  have hu0 : Below w0.heap.size w0 w0.drew := (Below.refl _ _).drew
  refine held_take (i := 0) (d := 5) (v := ?_) rfl rfl (by kernel_rfl) (by kernel_rfl) (by kernel_rfl) (fun _ _ _ h => h) (Or.inl ⟨by rfl, ?_⟩) hHeld ?_
  rotate_left
  · (intro w hSw; (try dsimp only at hSw); go_simp; all_goals (with_reducible rfl))
  try simp only [Act.put, List.setIfInBounds_toArray, List.set_cons_zero, List.set_cons_succ]
  refine held_take (i := 2) (d := 7) (v := ?_) rfl rfl (by kernel_rfl) (by kernel_rfl) (by kernel_rfl) (fun _ _ _ h => h) (Or.inl ⟨by rfl, ?_⟩) hHeld ?_
  rotate_left
  · (intro w hSw; (try dsimp only at hSw); go_simp; all_goals (with_reducible rfl))
  try simp only [Act.put, List.setIfInBounds_toArray, List.set_cons_zero, List.set_cons_succ]
  refine wpAnyH_ready (rs := [1]) (by kernel_rfl) (by simp) ?_
  refine AllReadyH.cons rfl (fun K hK => ?_) AllReadyH.nil
  go_simp
  have hq := clone_row ba bn bc bs w0.drew (HR.out.later hu0) hz hm
  refine hq.mono ?_
  clear hq
  rintro e u1 ⟨⟨ja, jn, jc, rfl, ho1⟩, hx⟩
  have hu1 : Below w0.heap.size w0 u1 := hu0.trans hx
  have HO1 : Hid (Own u1 w0.heap.size (.slice ja jn jc) (bs)) := ho1
  clear ho1 hx
  go_wp2_with fail
  refine hK.out _ _ ?_ (fun hHeld => ?_)
  · exact HS.out _ hu1
  clear hK K
  try simp only [Act.put, List.setIfInBounds_toArray, List.set_cons_zero, List.set_cons_succ]
  refine wpAnyH_ready (rs := [3]) (by kernel_rfl) (by simp) ?_
  refine AllReadyH.cons rfl (fun K hK => ?_) AllReadyH.nil
  go_simp
  have hq := txnBytes_let (i1, i2) plain b1 a1 n1 c1 a2 n2 c2 l1 l2 u1 (HT.out.later hu1) hw
  refine hq.mono ?_
  clear hq
  rintro e u2 ⟨⟨ka, kn, kc, rfl, ho2⟩, hx⟩
  have hu2 : Below w0.heap.size w0 u2 := hu1.trans (hx.mono hu1.size)
  have HO2 : Hid (Own u2 w0.heap.size (.slice ja jn jc) (bs)) := HO1.out.later hx
  have hr2 : Row u2 ka kn (txnB (i1, i2) plain l1 l2) ∧ (ka = none → kc = 0) := by
    obtain ⟨a, n, c, e, hr, _, _, hz, _⟩ := ho2.slice
    simp only [Value.slice.injEq] at e
    obtain ⟨rfl, rfl, rfl⟩ := e
    exact ⟨hr, hz⟩
  clear ho2 hx HO1
  go_wp2_with fail
  refine hK.out _ _ ?_ (fun hHeld => ?_)
  · exact HS.out _ hu2
  clear hK K
  try simp only [Act.put, List.setIfInBounds_toArray, List.set_cons_zero, List.set_cons_succ]
  refine wpAnyH_ready (rs := [4]) (by kernel_rfl) (by simp) ?_
  refine AllReadyH.cons rfl (fun K hK => ?_) AllReadyH.nil
  refine step_append_row (by rfl) _ _ (by rfl) w0.heap.size _ (bs) (by rfl) HO2.out ka kn kc (txnB (i1, i2) plain l1 l2) (by rfl) hr2.1 hr2.2 (by have h1 := hr2.1.1; omega) hu2.size ?_
  intro v9 w9 ho9 hb9
  obtain ⟨a9, n9, c9, rfl⟩ : ∃ a n c, v9 = .slice a n c := by obtain ⟨a, n, c, e, -⟩ := ho9.slice; exact ⟨_, _, _, e⟩
  have HA : Hid (Own w9 w0.heap.size (.slice a9 n9 c9) (bs ++ txnB (i1, i2) plain l1 l2) ∧ Below w0.heap.size w0 w9) := ⟨ho9, hu2.trans hb9⟩
  show K (Act.put _ (some 9) (.slice a9 n9 c9)) w9
  clear ho9 hb9
  refine hK.out _ _ ?_ (fun hHeld => ?_)
  · exact HS.out _ HA.out.2
  clear hK K
  try simp only [Act.put, List.setIfInBounds_toArray, List.set_cons_zero, List.set_cons_succ]
  refine held_take (i := 5) (d := 4) (v := ?_) rfl rfl (by kernel_rfl) (by kernel_rfl) (by kernel_rfl) (fun _ _ _ h => h) (Or.inl ⟨by rfl, ?_⟩) hHeld ?_
  rotate_left
  · (intro w hSw; (try dsimp only at hSw); go_simp; all_goals (with_reducible rfl))
  try simp only [Act.put, List.setIfInBounds_toArray, List.set_cons_zero, List.set_cons_succ]
  refine wpAnyH_done (by kernel_rfl) ?_ _
  clear hHeld
  go_wp2
  go_ret
  exact ⟨⟨_, _, _, rfl, HA.out.1.mono HB0.out.size⟩, HB0.out.trans (HA.out.2.mono HB0.out.size)⟩
theorem rtxt_any (s : ByteArray) (w : World) (hs : s.size ≤ 1000) : Calls Tryd.prog 38 #[.string s] w fun e w' => (∃ a n c, e = .returned (.slice a n c) ∧ (Row w' a n (textB s) ∧ (a = none → c = 0))) ∧ Below w.heap.size w w' := by
  have h := ref_text_any (bys s) w (bys_lt s) (by rw [bys_length]; omega)
  rw [str_bys, bys_length] at h
  refine h.mono ?_
  rintro e w' ⟨a, n, c, rfl, hr, -, hb⟩
  have hn : 0 < n := by
    have h1 := hr.1
    have h2 := textB_len s hs
    unfold textB at h2
    omega
  obtain ⟨b, off, rfl, -⟩ := hr.at hn
  exact ⟨⟨_, _, _, rfl, hr, by simp⟩, hb⟩
theorem row_of_own {w : World} {base : Nat} {a : Option Addr} {n c : Nat} {bs : List Nat} (h : Own w base (.slice a n c) bs) : Row w a n bs ∧ (a = none → c = 0) := by
  obtain ⟨a', n', c', e, hr, _, _, hz, _⟩ := h.slice
  simp only [Value.slice.injEq] at e
  obtain ⟨rfl, rfl, rfl⟩ := e
  exact ⟨hr, hz⟩
end Go.Proofs.YteokhedljfakkaaDoor
