/- What SpacePlays asks of both spaces: reads, rows of keys, dirty keys. -/
import Derived.Test.YtmahigfamgbhfaaSpC
import Derived.Test.YtmahigfamgbhfaaSqA
namespace Go.Proofs.Ytmahigfamgbhfaa
open Go.RowKit Go.Maps
set_option linter.unusedVariables false
set_option linter.unusedSimpArgs false

/-- the keys of rows -/
def kb (L : List LRow) : List Bs := L.map fun r => r.1.data.toList
abbrev ltB : Bs → Bs → Prop := fun a b => a < b
theorem srt_kb {L : List LRow} (h : Srt L) : (kb L).Pairwise ltB := by
  refine List.pairwise_map.2 (h.imp (fun {a b} hab => ?_))
  rw [bytesLess_eq, ByteArray.toList_eq, ByteArray.toList_eq] at hab
  simpa using hab
theorem kb_nodup {L : List LRow} (h : Srt L) : (kb L).Nodup := (srt_kb h).imp (fun {a b} hab e => by subst e; exact absurd hab (List.lt_irrefl _))
theorem sorted_is {ks : List Bs} {L : List LRow} (hn : ks.Nodup) (hs : Srt L) (hm : ∀ b, b ∈ ks ↔ b ∈ kb L) : ks.mergeSort (fun x y => decide (x ≤ y)) = kb L := by
  have tr : ∀ a b c : List UInt8, leB a b = true → leB b c = true → leB a c = true := fun a b c h1 h2 => by simp only [leB, decide_eq_true_eq] at *; exact List.le_trans h1 h2
  have to : ∀ a b : List UInt8, (leB a b || leB b a) = true := fun a b => by simp only [leB, Bool.or_eq_true, decide_eq_true_eq]; exact List.le_total a b
  refine List.Perm.eq_of_pairwise (le := fun a b => leB a b = true) (fun a b _ _ h1 h2 => ?_) (List.pairwise_mergeSort tr to ks) ((srt_kb hs).imp (fun {a b} h => ?_)) ((List.mergeSort_perm ks leB).trans ((List.perm_ext_iff_of_nodup hn (kb_nodup hs)).2 hm))
  · simp only [leB, decide_eq_true_eq] at h1 h2
    exact List.le_antisymm h1 h2
  · simp only [leB, decide_eq_true_eq]
    exact List.le_of_lt h
theorem kb_mem {L : List LRow} (hs : Srt L) (hf : Full L) (b : Bs) : b ∈ kb L ↔ ofL L ⟨b.toArray⟩ ≠ [] := by
  constructor
  · intro h
    obtain ⟨r, hr, rfl⟩ := List.mem_map.1 h
    have e : (⟨r.1.data.toList.toArray⟩ : ByteArray) = r.1 := by simp
    rw [e, ofL_row hs hr]
    exact hf r hr
  · intro h
    obtain ⟨r, hr, h1, _⟩ := ofL_mem h
    refine List.mem_map.2 ⟨r, hr, ?_⟩
    have := (bytes_same _ _).1 h1
    simpa using this
/-- the keys of dirty rows -/
def dirtyR (n : Int) (r : LRow) : Bool := decide ((undoL r.2 n).length < r.2.length)
theorem dirty_mem {L : List LRow} (hs : Srt L) (hf : Full L) {F : ByteArray → List Ver} (ha : ∀ s, ofL L s = F s) (n : Int) (b : Bs) : b ∈ kb (L.filter (dirtyR n)) ↔ F ⟨b.toArray⟩ ≠ [] ∧ dirtyAt F n b = true := by
  constructor
  · intro h
    obtain ⟨r, hr, rfl⟩ := List.mem_map.1 h
    obtain ⟨h1, h2⟩ := List.mem_filter.1 hr
    have e : (⟨r.1.data.toList.toArray⟩ : ByteArray) = r.1 := by simp
    have e2 : F r.1 = r.2 := by rw [← ha, ofL_row hs h1]
    refine ⟨by rw [e, e2]; exact hf r h1, ?_⟩
    rw [dirtyAt, e, e2]
    simpa [dirtyR, (read_undo n).1] using h2
  · rintro ⟨h1, h2⟩
    rw [← ha] at h1
    obtain ⟨r, hr, h3, h4⟩ := ofL_mem h1
    have h5 := (bytes_same _ _).1 h3
    refine List.mem_map.2 ⟨r, List.mem_filter.2 ⟨hr, ?_⟩, by simpa using h5⟩
    rw [dirtyAt, ← ha, h4] at h2
    simpa [dirtyR, (read_undo n).1] using h2

theorem neq_str (s : ByteArray) : (s.toList != s.toList) = false := by simp
set_option maxRecDepth 100000 in
set_option maxHeartbeats 2000000 in
theorem keysame_any (b1 b2 : Nat) (va vb : Value) (l : List Bs) (w : World) (h1 : OwnV w b1 9 va (l.map encStr)) (h2 : OwnV w b2 9 vb (l.map encStr)) :
    Calls Try.prog 32 #[va, vb] w fun e w' => e = .returned (.bool true) ∧ Below w.heap.size w w' := by
  obtain ⟨a, c, rfl, ha1, ha2, -, ha3⟩ := h1.shape
  obtain ⟨a', c', rfl, hb1, hb2, -, hb3⟩ := h2.shape
  have e := h1.1
  simp only [List.length_map] at ha1 hb1 ⊢
  have hl : l.length ≤ 9223372036854775807 := by unfold maxLen at ha2; omega
  have HA : Hid (∀ x, a = some x → ∃ g, x = ⟨g, 0, none⟩ ∧ b1 ≤ g ∧ g < w.heap.size ∧ ∀ j u, (l.map encStr)[j]? = some u → w.cell? ⟨g, j, none⟩ = some u) := ha3
  have HB : Hid (∀ x, a' = some x → ∃ g, x = ⟨g, 0, none⟩ ∧ b2 ≤ g ∧ g < w.heap.size ∧ ∀ j u, (l.map encStr)[j]? = some u → w.cell? ⟨g, j, none⟩ = some u) := hb3
  have HA0 : Hid (a = none → l = []) := fun h => by
    have := h1.shape
    subst h
    obtain ⟨a9, c9, e9, -, -, h9, -⟩ := this
    simp only [Value.slice.injEq] at e9
    have := (h9 e9.1.symm).1
    simpa using this
  have HB0 : Hid (a' = none → l = []) := fun h => by
    have := h2.shape
    subst h
    obtain ⟨a9, c9, e9, -, -, h9, -⟩ := this
    simp only [Value.slice.injEq] at e9
    have := (h9 e9.1.symm).1
    simpa using this
  clear ha1 ha2 ha3 hb1 hb2 hb3 h1 h2 e
  go_enter Try.func32, Try.ntmps32
  go_wp2
  go_loopw [13] (fun t wr => ∃ k : Nat, t = .int .i64 (k : Nat) ∧ k ≤ l.length ∧ Hid (Below w.heap.size w wr)) (fun t _ => l.length - (intOf t).toNat)
  case atStart => exact ⟨0, rfl, by omega, Below.refl _ _⟩
  case round =>
    obtain ⟨k, rfl, hk, HW⟩ := hrel
    by_cases hlt : k < l.length
    · obtain ⟨x, rfl⟩ : ∃ x, a = some x := by
        cases a with
        | none => have := HA0.out rfl; subst this; simp at hlt
        | some x => exact ⟨x, rfl⟩
      obtain ⟨x', rfl⟩ : ∃ x, a' = some x := by
        cases a' with
        | none => have := HB0.out rfl; subst this; simp at hlt
        | some x => exact ⟨x, rfl⟩
      obtain ⟨ga, rfl, -, hga, hca⟩ := HA.out x rfl
      obtain ⟨gb, rfl, -, hgb, hcb⟩ := HB.out x' rfl
      have hx : (l.map encStr)[k]? = some (.string ⟨l[k].toArray⟩) := by rw [List.getElem?_map, List.getElem?_eq_getElem hlt]; rfl
      have d0 := (HW.out.cell (p := ⟨ga, k, none⟩) hga).trans (hca k _ hx)
      have d1 := (HW.out.cell (p := ⟨gb, k, none⟩) hgb).trans (hcb k _ hx)
      generalize (⟨l[k].toArray⟩ : ByteArray) = s at d0 d1
      have hne := neq_str s
      clear hx hca hcb hga hgb
      go_upto_region 6 with fail
      refine wp_region_noPanic ?_
      refine wp_region_held_drew (S := (fun w' => w'.cell? ⟨ga, k, none⟩ = some (.string s) ∧ w'.cell? ⟨gb, k, none⟩ = some (.string s))) (by kernel_rfl) ?_ (fun hHeld => ?_)
      · exact ⟨d0, d1⟩
      refine held_take (i := 0) (d := 16) (v := ?_) rfl rfl (by kernel_rfl) (by kernel_rfl) (by kernel_rfl) (fun _ _ _ h => h) (Or.inl ⟨by rfl, ?_⟩) hHeld ?_
      rotate_left
      · (intro w hSw; (try dsimp only at hSw); go_simp; all_goals (with_reducible rfl))
      try simp only [Act.put, List.setIfInBounds_toArray, List.set_cons_zero, List.set_cons_succ]
      refine held_take (i := 1) (d := 17) (v := ?_) rfl rfl (by kernel_rfl) (by kernel_rfl) (by kernel_rfl) (fun _ _ _ h => h) (Or.inl ⟨by rfl, ?_⟩) hHeld ?_
      rotate_left
      · (intro w hSw; (try dsimp only at hSw); go_simp; all_goals (with_reducible rfl))
      try simp only [Act.put, List.setIfInBounds_toArray, List.set_cons_zero, List.set_cons_succ]
      refine held_take (i := 2) (d := 18) (v := ?_) rfl rfl (by kernel_rfl) (by kernel_rfl) (by kernel_rfl) (fun _ _ _ h => h) (Or.inl ⟨by rfl, ?_⟩) hHeld ?_
      rotate_left
      · (intro w hSw; (try dsimp only at hSw); go_simp; all_goals (with_reducible rfl))
      try simp only [Act.put, List.setIfInBounds_toArray, List.set_cons_zero, List.set_cons_succ]
      refine held_take (i := 3) (d := 19) (v := ?_) rfl rfl (by kernel_rfl) (by kernel_rfl) (by kernel_rfl) (fun _ _ _ h => h) (Or.inl ⟨by rfl, ?_⟩) hHeld ?_
      rotate_left
      · (intro w hSw; (try dsimp only at hSw); go_simp; all_goals (with_reducible rfl))
      try simp only [Act.put, List.setIfInBounds_toArray, List.set_cons_zero, List.set_cons_succ]
      refine held_take (i := 4) (d := 20) (v := ?_) rfl rfl (by kernel_rfl) (by kernel_rfl) (by kernel_rfl) (fun _ _ _ h => h) (Or.inl ⟨by rfl, ?_⟩) hHeld ?_
      rotate_left
      · (intro w hSw; (try dsimp only at hSw); go_simp; all_goals (with_reducible rfl))
      try simp only [Act.put, List.setIfInBounds_toArray, List.set_cons_zero, List.set_cons_succ]
      refine held_take (i := 5) (d := 21) (v := ?_) rfl rfl (by kernel_rfl) (by kernel_rfl) (by kernel_rfl) (fun _ _ _ h => h) (Or.inl ⟨by rfl, ?_⟩) hHeld ?_
      rotate_left
      · (intro w hSw; (try dsimp only at hSw); go_simp; all_goals (with_reducible rfl))
      try simp only [Act.put, List.setIfInBounds_toArray, List.set_cons_zero, List.set_cons_succ]
      refine held_take (i := 6) (d := 22) (v := ?_) rfl rfl (by kernel_rfl) (by kernel_rfl) (by kernel_rfl) (fun _ _ _ h => h) (Or.inl ⟨by rfl, ?_⟩) hHeld ?_
      rotate_left
      · (intro w hSw; (try dsimp only at hSw); go_simp; all_goals (with_reducible rfl))
      try simp only [Act.put, List.setIfInBounds_toArray, List.set_cons_zero, List.set_cons_succ]
      refine held_take (i := 7) (d := 23) (v := ?_) rfl rfl (by kernel_rfl) (by kernel_rfl) (by kernel_rfl) (fun _ _ _ h => h) (Or.inl ⟨by rfl, ?_⟩) hHeld ?_
      rotate_left
      · (intro w hSw; (try dsimp only at hSw); go_simp; all_goals (with_reducible rfl))
      try simp only [Act.put, List.setIfInBounds_toArray, List.set_cons_zero, List.set_cons_succ]
      refine held_take (i := 8) (d := 24) (v := ?_) rfl rfl (by kernel_rfl) (by kernel_rfl) (by kernel_rfl) (fun _ _ _ h => h) (Or.inl ⟨by rfl, ?_⟩) hHeld ?_
      rotate_left
      · (intro w hSw; (try dsimp only at hSw); go_simp; all_goals (with_reducible rfl))
      try simp only [Act.put, List.setIfInBounds_toArray, List.set_cons_zero, List.set_cons_succ]
      refine wpAnyH_done (by kernel_rfl) ?_ _
      refine NoPanic.normal ?_
      have HW2 : Hid (Below w.heap.size w wr.drew) := HW.out.drew
      clear d0 d1
      go_wp2
      go_roundw
      case rel => exact ⟨k + 1, by go_num, by omega, HW2⟩
      case measure => simp [intOf]; omega
    · go_wp2
      go_ret
      exact ⟨rfl, HW.out⟩

set_option maxRecDepth 100000 in
set_option maxHeartbeats 2000000 in
theorem reads_any (c g bm gr : Nat) (F : ByteArray → List Ver) (L : List LRow) (key : ByteArray) (m : Int) (w : World) (h : St c w g bm gr F L) (hc : c < 1000) (hs : key.size ≤ maxLen) :
    Calls Try.prog 30 #[.pointer (some ⟨g, 0, none⟩), .pointer (some ⟨gr, 0, none⟩), .string key, .int .i64 m] w fun e w' => e = .returned (.bool true) ∧ Below w.heap.size w w' := by
  obtain ⟨n, D, hsp, _⟩ := h.sp
  have h1 := sread_any g bm n D F key m w hsp hs
  have HS : Hid (St c w g bm gr F L) := h
  have HRI : Hid (Rises (ofL L key) ∧ (ofL L key).length ≤ 1000000) := by
    rw [Hid, h.agree]
    exact ⟨right_rises (hsp.right key), by have := (h.bound key).1; omega⟩
  have HAG : Hid (ofL L key = F key) := h.agree key
  clear hsp h
  go_enter Try.func30, Try.ntmps30
  go_wp2_with fail
  refine h1.mono ?_
  clear h1
  rintro e w1 ⟨rfl, hb1⟩
  have b2 : Below w1.heap.size w1 (w1.alloc (.cells #[.int .i64 (readV (F key) m).pos, .int .u64 ((readV (F key) m).num : Nat), .string (readV (F key) m).val, .bool (readV (F key) m).gone] 36)) := (Below.refl _ _).alloc (Nat.le_refl _) _
  have HV2 : Hid (VarV (w1.alloc (.cells #[.int .i64 (readV (F key) m).pos, .int .u64 ((readV (F key) m).num : Nat), .string (readV (F key) m).val, .bool (readV (F key) m).gone] 36)) w1.heap.size 36 (readV (F key) m)) := heap_alloc_new w1 _
  have HB2 : Hid (Below w.heap.size w (w1.alloc (.cells #[.int .i64 (readV (F key) m).pos, .int .u64 ((readV (F key) m).num : Nat), .string (readV (F key) m).val, .bool (readV (F key) m).gone] 36))) := hb1.trans (b2.mono hb1.size)
  clear hb1 b2
  go_upto_region 2 with fail
  generalize hw2 : w1.alloc (.cells #[.int .i64 (readV (F key) m).pos, .int .u64 ((readV (F key) m).num : Nat), .string (readV (F key) m).val, .bool (readV (F key) m).gone] 36) = w2 at *
  clear hw2
  generalize w1.heap.size = p1 at *
  go_wp2_with fail
  refine (of_any gr L key w2 (HS.out.later HB2.out).rs).mono ?_
  rintro e w3 ⟨u, rfl, ⟨ua, uk, uc, rfl, hv, -⟩, hb3⟩
  have h2 := ref_read_any ua uk uc m (ofL L key) w3 hv HRI.out.1 (by have := HRI.out.2; have := hv.1; omega)
  rw [HAG.out] at h2
  have HB3 : Hid (Below w.heap.size w w3) := HB2.out.trans (hb3.mono HB2.out.size)
  have HV3 : Hid (VarV w3 p1 36 (readV (F key) m)) := HV2.out.later hb3
  clear hb3 hv HB2 HV2
  go_wp2_with fail
  refine h2.mono ?_
  clear h2
  rintro e w4 ⟨rfl, hb4⟩
  have b5 : Below w4.heap.size w4 (w4.alloc (.cells #[.int .i64 (readV (F key) m).pos, .int .u64 ((readV (F key) m).num : Nat), .string (readV (F key) m).val, .bool (readV (F key) m).gone] 43)) := (Below.refl _ _).alloc (Nat.le_refl _) _
  have HV5 : Hid (VarV (w4.alloc (.cells #[.int .i64 (readV (F key) m).pos, .int .u64 ((readV (F key) m).num : Nat), .string (readV (F key) m).val, .bool (readV (F key) m).gone] 43)) p1 36 (readV (F key) m)) := (HV3.out.later hb4).later b5
  have HU5 : Hid (VarV (w4.alloc (.cells #[.int .i64 (readV (F key) m).pos, .int .u64 ((readV (F key) m).num : Nat), .string (readV (F key) m).val, .bool (readV (F key) m).gone] 43)) w4.heap.size 43 (readV (F key) m)) := heap_alloc_new w4 _
  have HB5 : Hid (Below w.heap.size w (w4.alloc (.cells #[.int .i64 (readV (F key) m).pos, .int .u64 ((readV (F key) m).num : Nat), .string (readV (F key) m).val, .bool (readV (F key) m).gone] 43))) := (HB3.out.trans (hb4.mono HB3.out.size)).trans (b5.mono (by have := HB3.out.size; have := hb4.size; omega))
  clear hb4 b5 HV3 HB3
  go_upto_region 3 with fail
  generalize hw5 : w4.alloc (.cells #[.int .i64 (readV (F key) m).pos, .int .u64 ((readV (F key) m).num : Nat), .string (readV (F key) m).val, .bool (readV (F key) m).gone] 43) = w5 at *
  clear hw5
  generalize w4.heap.size = p4 at *
  obtain ⟨x0, x1, x2, x3⟩ := HV5.out.cells
  obtain ⟨y0, y1, y2, y3⟩ := HU5.out.cells
  have heq : ∀ W, (binOp .eql 36 (readV (F key) m).value (readV (F key) m).value).run Try.prog W = .ok (.bool true) W := fun W => by rw [eql_36, eqV_self]
  generalize readV (F key) m = rv at *
  generalize readB (F key) m = rb at *
  simp only [Ver.value] at heq
  go_wp2
  go_ret
  exact ⟨by simp, HB5.out⟩
end Go.Proofs.Ytmahigfamgbhfaa
