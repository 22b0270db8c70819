/- A transaction's bytes: the program's. -/
import Derived.Test.YteokhedljfakkaaDoorEnR
import Derived.Test.YteokhedljfakkaaDoorEnW
namespace Go.Proofs.YteokhedljfakkaaDoor
open Go Go.RowKit
set_option linter.unusedVariables false
set_option linter.unusedSimpArgs false

theorem Own.tag {w : World} {base : Nat} {v : Value} {bs : List Nat} (h : Own w base v bs) : ∀ k, v.ownBlock = some k → base ≤ k ∧ tagOf w k = some 5 := fun k hk => ⟨h.block k hk, owns_tag h.1 k hk⟩
/-- 'append(x, y...)': nothing but blocks of bytes is written -/
theorem oper_append_fr {w : World} {o : Oper} {a : Act} {K : Act → World → Prop} {Q : Exit → Act → World → Prop} (s x : Operand)
    (ho : o.op = .call { callee := .builtin .append, args := #[s, x], argTypes := #[46, 46] })
    (base : Nat) (v : Value) (xs : List Nat) (hs : a.eval s = v) (hown : Own w base v xs)
    (ao : Option Addr) (m c : Nat) (ns : List Nat) (hx : a.eval x = .slice ao m c) (hr : Row w ao m ns) (hz : ao = none → c = 0)
    (hbytes : xs.length + m ≤ 140737488355328) (hbase : base ≤ w.heap.size)
    (h : ∀ v' w', Own w' base v' (xs ++ ns) → Fr base [5] w w' → K (a.put o.dst v') w') : Oper.wp Tryd.prog o a w K Q := by
  obtain ⟨i0, hi, hz0, hz1, hz2⟩ := info_parts Tryd.info_5
  have hall : ∀ y ∈ xs ++ ns, y < 256 := by
    intro y hy
    rcases List.mem_append.1 hy with h1 | h1
    · exact hown.2 y h1
    · exact hr.2.1 y h1
  cases ao with
  | none =>
    have hns : ns = [] := by
      rcases hr.2.2.2 with h1 | ⟨b, off, h1, _⟩
      · exact h1
      · cases h1
    subst hns
    have hm : m = 0 := hr.1.symm
    subst hm
    rw [hz rfl] at hx
    have hrun := run_append_owned_none (P := Tryd.prog) (w := w) base 46 o.type 5 i0 1 Tryd.underlying46 hi v _ _ hown.1
    unfold Oper.wp
    simp [execOp, ho, resolve, invoke, builtin, hs, hx, hrun, Result.andThen]
    exact h v w (by simpa using hown) (Fr.refl _ _ _)
  | some ad =>
    have hnews : ∀ j u, (cellsOf ns)[j]? = some u → w.cell? (ad.add j) = some u := by
      rcases hr.2.2.2 with rfl | ⟨b, off, h1, hc⟩
      · intro j u hj; simp [cellsOf] at hj
      · simp only [Option.some.injEq] at h1
        subst h1
        exact cellsOf_row hr
    have hlen := hr.1
    refine wp_append_own w s x 46 ho base 5 i0 (.int .u8 0) 1 1 Tryd.underlying46 hi hz0 hz1 hz2 rfl (by decide) v _ _ hs hown.1 ad m c (cellsOf ns) hx (by simp [cellsOf]; omega) hnews cellsOf_one (by unfold maxLen; omega) (by omega) hbase ?_
    intro v' w' h1 h2 _
    refine h v' w' ⟨?_, hall⟩ (Fr.grown h2 (fun k hk => ⟨(hown.tag k hk).1, 5, by simp, (hown.tag k hk).2⟩))
    rw [cellsOf_append, List.length_append, hlen]
    exact h1
theorem step_append_fr {w : World} {ops : Array Oper} {o : Oper} {a : Act} {K : Act → World → Prop} {Q : Exit → Act → World → Prop} {E : Prop} (hgd : o.guard = none) (s x : Operand)
    (ho : o.op = .call { callee := .builtin .append, args := #[s, x], argTypes := #[46, 46] })
    (base : Nat) (v : Value) (xs : List Nat) (hs : a.eval s = v) (hown : Own w base v xs)
    (ao : Option Addr) (m c : Nat) (ns : List Nat) (hx : a.eval x = .slice ao m c) (hr : Row w ao m ns) (hz : ao = none → c = 0)
    (hbytes : xs.length + m ≤ 140737488355328) (hbase : base ≤ w.heap.size)
    (h : ∀ v' w', Own w' base v' (xs ++ ns) → Fr base [5] w w' → K (a.put o.dst v') w') :
    if Region.wanted o (yielded ops a.tmps) = true then Oper.wp Tryd.prog o a w K Q else E := by
  have hw : Region.wanted o (yielded ops a.tmps) = true := by simp [Region.wanted, hgd]
  rw [if_pos hw]
  exact oper_append_fr s x ho base v xs hs hown ao m c ns hx hr hz hbytes hbase h
theorem wp_append_fr {w : World} {ops : Array Oper} {rest : List Oper} {o : Oper} {a : Act} {Q : Exit → Act → World → Prop} (hgd : o.guard = none) (s x : Operand)
    (ho : o.op = .call { callee := .builtin .append, args := #[s, x], argTypes := #[46, 46] })
    (base : Nat) (v : Value) (xs : List Nat) (hs : a.eval s = v) (hown : Own w base v xs)
    (ao : Option Addr) (m c : Nat) (ns : List Nat) (hx : a.eval x = .slice ao m c) (hr : Row w ao m ns) (hz : ao = none → c = 0)
    (hbytes : xs.length + m ≤ 140737488355328) (hbase : base ≤ w.heap.size)
    (h : ∀ v' w', Own w' base v' (xs ++ ns) → Fr base [5] w w' → wpList Tryd.prog ops Q rest (a.put o.dst v') w') : wpList Tryd.prog ops Q (o :: rest) a w :=
  wpList_plain hgd fun _ hK => oper_append_fr s x ho base v xs hs hown ao m c ns hx hr hz hbytes hbase fun v' w' h2 h3 => hK _ _ (h v' w' h2 h3)

/-- what a transaction must be to be written -/
structure Wri (id : Id) (l1 : List Rdv) (l2 : List Wrv) : Prop where
  i0 : 0 ≤ id.1
  i1 : id.1 < 9223372036854775808
  s0 : 0 ≤ id.2
  s1 : id.2 < 18446744073709551616
  r : ∀ x ∈ l1, x.key.size ≤ 1000 ∧ 0 ≤ x.num ∧ x.num < 18446744073709551616
  w : ∀ x ∈ l2, x.key.size ≤ 1000 ∧ x.val.size ≤ 1000
  n1 : l1.length ≤ 10
  n2 : l2.length ≤ 10
theorem textB_len (s : ByteArray) (h : s.size ≤ 1000) : 1 ≤ (textB s).length ∧ (textB s).length ≤ 1010 := by
  unfold textB
  rw [List.length_append, bys_length]
  have := put_len s.size
  omega
theorem rdB_len (x : Rdv) (h : x.key.size ≤ 1000) : (rdB x).length ≤ 1020 := by
  unfold rdB
  rw [List.length_append]
  have := textB_len x.key h
  have := put_len x.num.toNat
  omega
theorem wrB_len (x : Wrv) (h : x.key.size ≤ 1000) (h2 : x.val.size ≤ 1000) : (wrB x).length ≤ 2030 := by
  unfold wrB
  simp only [List.length_append]
  have := textB_len x.key h
  have := textB_len x.val h2
  have := put_len (bitN x.gone)
  omega
theorem rdsB_len (l : List Rdv) (h : ∀ x ∈ l, x.key.size ≤ 1000) : (rdsB l).length ≤ 1020 * l.length := by
  induction l with
  | nil => simp [rdsB]
  | cons x l ih =>
    have h1 := rdB_len x (h x (by simp))
    have h2 := ih (fun y hy => h y (by simp [hy]))
    have h3 : (rdsB (x :: l)).length = (rdB x).length + (rdsB l).length := by simp [rdsB]
    rw [h3, List.length_cons]; omega
theorem wrsB_len (l : List Wrv) (h : ∀ x ∈ l, x.key.size ≤ 1000 ∧ x.val.size ≤ 1000) : (wrsB l).length ≤ 2030 * l.length := by
  induction l with
  | nil => simp [wrsB]
  | cons x l ih =>
    have h1 := wrB_len x (h x (by simp)).1 (h x (by simp)).2
    have h2 := ih (fun y hy => h y (by simp [hy]))
    have h3 : (wrsB (x :: l)).length = (wrB x).length + (wrsB l).length := by simp [wrsB]
    rw [h3, List.length_cons]; omega
def txnH (id : Id) (plain : Bool) (n : Nat) : List Nat := idB id ++ Oct.put (bitN plain) ++ Oct.put n
theorem txnH_len (id : Id) (plain : Bool) (n : Nat) : 4 ≤ (txnH id plain n).length ∧ (txnH id plain n).length ≤ 40 := by
  unfold txnH
  simp only [List.length_append]
  have := idB_len id
  have := put_len (bitN plain)
  have := put_len n
  omega

set_option maxRecDepth 100000 in
set_option maxHeartbeats 16000000 in
theorem txnBytes_any (id : Id) (plain : Bool) (b1 : Nat) (a1 : Option Addr) (n1 c1 : Nat) (a2 : Option Addr) (n2 c2 : Nat) (l1 : List Rdv) (l2 : List Wrv) (w : World) (h : Tx w b1 a1 n1 c1 a2 n2 c2 l1 l2) (hw : Wri id l1 l2) :
    Calls Tryd.prog 35 #[txnv id plain (.slice a1 n1 c1) (.slice a2 n2 c2)] w fun e w' => (∃ v, e = .returned v ∧ Own w' w.heap.size v (txnB id plain l1 l2)) ∧ Below w.heap.size w w' := by
  obtain ⟨i1, i2⟩ := id
  obtain ⟨aa, cc, e1, hR⟩ := owns_rds h.r ⟨⟨#[]⟩, 0⟩
  simp only [Value.slice.injEq] at e1
  obtain ⟨rfl, e2, rfl⟩ := e1
  obtain ⟨aa, cc, e1, hW⟩ := owns_wrs h.w ⟨⟨#[]⟩, ⟨#[]⟩, false⟩
  simp only [Value.slice.injEq] at e1
  obtain ⟨rfl, e3, rfl⟩ := e1
  rw [← e2] at hR
  rw [← e3] at hW
  have HN1 : Hid (n1 = l1.length) := e2
  have HN2 : Hid (n2 = l2.length) := e3
  have hn10 : n1 ≤ 10 := by rw [e2]; exact hw.n1
  have hn20 : n2 ≤ 10 := by rw [e3]; exact hw.n2
  have HWR : Hid (Wri (i1, i2) l1 l2) := hw
  obtain ⟨q0, q1, q2, q3, -, -, -, -⟩ := hw
  simp only at q0 q1 q2 q3
  clear h e2 e3
  have hb0 : Below w.heap.size w (w.alloc (.cells #[.int .i64 i1, .int .u64 i2, .bool plain, .slice a1 n1 c1, .slice a2 n2 c2] 35)) := (Below.refl _ _).alloc (Nat.le_refl _) _
  have hn0 := heap_alloc_new w (.cells #[.int .i64 i1, .int .u64 i2, .bool plain, .slice a1 n1 c1, .slice a2 n2 c2] 35)
  go_enter Tryd.func35, Tryd.ntmps35
  go_upto_region 1 with fail
  generalize w.alloc (.cells #[.int .i64 i1, .int .u64 i2, .bool plain, .slice a1 n1 c1, .slice a2 n2 c2] 35) = w0 at *
  have HR0 : Hid (Rds w0 a1 n1 (fun i => l1[i]?.getD ⟨⟨#[]⟩, 0⟩)) := hR.later hb0
  have HW0 : Hid (Wrs w0 a2 n2 (fun i => l2[i]?.getD ⟨⟨#[]⟩, ⟨#[]⟩, false⟩)) := hW.later hb0
  have HB0 : Hid (Below w.heap.size w w0) := hb0
  have HN0 : Hid (w0.heap[w.heap.size]? = some (.cells #[.int .i64 i1, .int .u64 i2, .bool plain, .slice a1 n1 c1, .slice a2 n2 c2] 35)) := hn0
  obtain ⟨x0, x1, x2, x3, x4⟩ := five_cells hn0
  have HS : Hid (∀ w', Below w0.heap.size w0 w' → w'.cell? ⟨w.heap.size, 0, none⟩ = some (.int .i64 i1) ∧ w'.cell? ⟨w.heap.size, 1, none⟩ = some (.int .u64 i2) ∧ w'.cell? ⟨w.heap.size, 2, none⟩ = some (.bool plain) ∧ w'.cell? ⟨w.heap.size, 3, none⟩ = some (.slice a1 n1 c1) ∧ w'.cell? ⟨w.heap.size, 4, none⟩ = some (.slice a2 n2 c2)) := fun w' hb => ⟨cell_later hb x0, cell_later hb x1, cell_later hb x2, cell_later hb x3, cell_later hb x4⟩
  have hcv : IntKind.u64.wrap (n1 : Int) = (n1 : Int) := by simp [IntKind.wrap, IntKind.bits]; omega
  clear x0 x1 x2 x3 x4 hb0 hn0 hR hW
  refine wp_region_held_drew (S := (fun w' => w'.cell? ⟨w.heap.size, 0, none⟩ = some (.int .i64 i1) ∧ w'.cell? ⟨w.heap.size, 1, none⟩ = some (.int .u64 i2) ∧ w'.cell? ⟨w.heap.size, 2, none⟩ = some (.bool plain) ∧ w'.cell? ⟨w.heap.size, 3, none⟩ = some (.slice a1 n1 c1) ∧ w'.cell? ⟨w.heap.size, 4, none⟩ = some (.slice a2 n2 c2))) (by kernel_rfl) ?_ (fun hHeld => ?_)
  · exact HS.out _ (Below.refl _ _).drew
  have hu0 : Below w0.heap.size w0 w0.drew := (Below.refl _ _).drew
  refine held_take (i := 0) (d := 8) (v := ?_) rfl rfl (by kernel_rfl) (by kernel_rfl) (by kernel_rfl) (fun _ _ _ h => h) (Or.inl ⟨by rfl, ?_⟩) hHeld ?_
  rotate_left
  · (intro w hSw; (try dsimp only at hSw); go_simp; all_goals (with_reducible rfl))
  try simp only [Act.put, List.setIfInBounds_toArray, List.set_cons_zero, List.set_cons_succ]
  refine held_take (i := 1) (d := 9) (v := ?_) rfl rfl (by kernel_rfl) (by kernel_rfl) (by kernel_rfl) (fun _ _ _ h => h) (Or.inl ⟨by rfl, ?_⟩) hHeld ?_
  rotate_left
  · (intro w hSw; (try dsimp only at hSw); go_simp; all_goals (with_reducible rfl))
  try simp only [Act.put, List.setIfInBounds_toArray, List.set_cons_zero, List.set_cons_succ]
  refine held_take (i := 3) (d := 11) (v := ?_) rfl rfl (by kernel_rfl) (by kernel_rfl) (by kernel_rfl) (fun _ _ _ h => h) (Or.inl ⟨by rfl, ?_⟩) hHeld ?_
  rotate_left
  · (intro w hSw; (try dsimp only at hSw); go_simp; all_goals (with_reducible rfl))
  try simp only [Act.put, List.setIfInBounds_toArray, List.set_cons_zero, List.set_cons_succ]
  refine held_take (i := 4) (d := 12) (v := ?_) rfl rfl (by kernel_rfl) (by kernel_rfl) (by kernel_rfl) (fun _ _ _ h => h) (Or.inl ⟨by rfl, ?_⟩) hHeld ?_
  rotate_left
  · (intro w hSw; (try dsimp only at hSw); go_simp; all_goals (with_reducible rfl))
  try simp only [Act.put, List.setIfInBounds_toArray, List.set_cons_zero, List.set_cons_succ]
  refine held_take (i := 6) (d := 14) (v := ?_) rfl rfl (by kernel_rfl) (by kernel_rfl) (by kernel_rfl) (fun _ _ _ h => h) (Or.inl ⟨by rfl, ?_⟩) hHeld ?_
  rotate_left
  · (intro w hSw; (try dsimp only at hSw); go_simp; all_goals (with_reducible rfl))
  try simp only [Act.put, List.setIfInBounds_toArray, List.set_cons_zero, List.set_cons_succ]
  refine held_take (i := 7) (d := 15) (v := ?_) rfl rfl (by kernel_rfl) (by kernel_rfl) (by kernel_rfl) (fun _ _ _ h => h) (Or.inl ⟨by rfl, ?_⟩) hHeld ?_
  rotate_left
  · (intro w hSw; (try dsimp only at hSw); go_simp; all_goals (with_reducible rfl))
  try simp only [Act.put, List.setIfInBounds_toArray, List.set_cons_zero, List.set_cons_succ]
  refine held_take (i := 8) (d := 16) (v := ?_) rfl rfl (by kernel_rfl) (by kernel_rfl) (by kernel_rfl) (fun _ _ _ h => h) (Or.inl ⟨by rfl, ?_⟩) hHeld ?_
  rotate_left
  · (intro w hSw; (try dsimp only at hSw); go_simp; all_goals (with_reducible rfl))
  try simp only [Act.put, List.setIfInBounds_toArray, List.set_cons_zero, List.set_cons_succ]
  refine held_take (i := 9) (d := 17) (v := ?_) rfl rfl (by kernel_rfl) (by kernel_rfl) (by kernel_rfl) (fun _ _ _ h => h) (Or.inl ⟨by rfl, ?_⟩) hHeld ?_
  rotate_left
  · (intro w hSw; (try dsimp only at hSw); go_simp; all_goals (with_reducible rfl))
  try simp only [Act.put, List.setIfInBounds_toArray, List.set_cons_zero, List.set_cons_succ]
  refine wpAnyH_ready (rs := [2]) (by kernel_rfl) (by simp) ?_
  refine AllReadyH.cons rfl (fun K hK => ?_) AllReadyH.nil
  go_simp
  have hq := idb_any (i1, i2) w0.drew q0 q1 q2 q3
  refine hq.mono ?_
  clear hq
  rintro e u1 ⟨jb1, jn1, jc1, rfl, hr1, hx1⟩
  have hu1 : Below w0.heap.size w0 u1 := hu0.trans (hx1.mono hu0.size)
  clear hx1
  go_wp2_with fail
  refine hK.out _ _ ?_ (fun hHeld => ?_)
  · exact HS.out _ hu1
  clear hK K
  try simp only [Act.put, List.setIfInBounds_toArray, List.set_cons_zero, List.set_cons_succ]
  refine wpAnyH_ready (rs := [5]) (by kernel_rfl) (by simp) ?_
  refine AllReadyH.cons rfl (fun K hK => ?_) AllReadyH.nil
  go_simp
  have hq := eflag_any plain u1
  refine hq.mono ?_
  clear hq
  rintro e u2 ⟨jb2, jn2, jc2, rfl, hr2, hx2⟩
  replace hr1 : Row u2 jb1 jn1 (idB (i1, i2)) ∧ (jb1 = none → jc1 = 0) := ⟨hr1.1.later hx2, hr1.2⟩
  have hu2 : Below w0.heap.size w0 u2 := hu1.trans (hx2.mono hu1.size)
  clear hx2
  go_wp2_with fail
  refine hK.out _ _ ?_ (fun hHeld => ?_)
  · exact HS.out _ hu2
  clear hK K
  try simp only [Act.put, List.setIfInBounds_toArray, List.set_cons_zero, List.set_cons_succ]
  refine wpAnyH_ready (rs := [10]) (by kernel_rfl) (by simp) ?_
  refine AllReadyH.cons rfl (fun K hK => ?_) AllReadyH.nil
  go_simp
  have hq := enum_any n1 u2 (by omega)
  refine hq.mono ?_
  clear hq
  rintro e u3 ⟨jb3, jn3, jc3, rfl, hr3, hx3⟩
  replace hr1 : Row u3 jb1 jn1 (idB (i1, i2)) ∧ (jb1 = none → jc1 = 0) := ⟨hr1.1.later hx3, hr1.2⟩
  replace hr2 : Row u3 jb2 jn2 (Oct.put (bitN plain)) ∧ (jb2 = none → jc2 = 0) := ⟨hr2.1.later hx3, hr2.2⟩
  have hu3 : Below w0.heap.size w0 u3 := hu2.trans (hx3.mono hu2.size)
  clear hx3
  go_wp2_with fail
  refine hK.out _ _ ?_ (fun hHeld => ?_)
  · exact HS.out _ hu3
  clear hK K
  try simp only [Act.put, List.setIfInBounds_toArray, List.set_cons_zero, List.set_cons_succ]
  have hzb : Below u3.heap.size u3 (u3.alloc (.cells #[.slice jb1 jn1 jc1, .slice jb2 jn2 jc2, .slice jb3 jn3 jc3] 46)) := (Below.refl _ _).alloc (Nat.le_refl _) _
  have hzn := heap_alloc_new u3 (.cells #[.slice jb1 jn1 jc1, .slice jb2 jn2 jc2, .slice jb3 jn3 jc3] 46)
  have huz : Below w0.heap.size w0 (u3.alloc (.cells #[.slice jb1 jn1 jc1, .slice jb2 jn2 jc2, .slice jb3 jn3 jc3] 46)) := hu3.trans (hzb.mono hu3.size)
  refine wpAnyH_ready (rs := [11]) (by kernel_rfl) (by simp) ?_
  refine AllReadyH.cons rfl (fun K hK => ?_) AllReadyH.nil
  go_simp
  refine hK.out _ _ ?_ (fun hHeld => ?_)
  · exact HS.out _ huz
  clear hK K
  try simp only [Act.put, List.setIfInBounds_toArray, List.set_cons_zero, List.set_cons_succ]
  have hj := join_three hzn (⟨hr1.1.later hzb, hr1.2⟩) (⟨hr2.1.later hzb, hr2.2⟩) (⟨hr3.1.later hzb, hr3.2⟩) (by simp only [List.length_append]; have := idB_len (i1, i2); omega) (by simp only [List.length_append]; have := idB_len (i1, i2); have := put_len (bitN plain); have := put_len n1; omega)
  generalize u3.alloc (.cells #[.slice jb1 jn1 jc1, .slice jb2 jn2 jc2, .slice jb3 jn3 jc3] 46) = uz at *
  clear hzn hzb
  refine wpAnyH_ready (rs := [12]) (by kernel_rfl) (by simp) ?_
  refine AllReadyH.cons rfl (fun K hK => ?_) AllReadyH.nil
  go_simp
  refine hj.mono ?_
  clear hj
  rintro e w9 ⟨⟨v9, rfl, ho9⟩, hx9⟩
  obtain ⟨a9, n9, c9, rfl⟩ : ∃ a n c, v9 = .slice a n c := by obtain ⟨a, n, c, e, -⟩ := ho9.slice; exact ⟨_, _, _, e⟩
  have HJ : Hid (Own w9 w0.heap.size (.slice a9 n9 c9) ((idB (i1, i2)) ++ (Oct.put (bitN plain)) ++ (Oct.put n1)) ∧ Below w0.heap.size w0 w9) := ⟨ho9.mono huz.size, huz.trans (hx9.mono huz.size)⟩
  clear ho9 hx9
  go_wp2_with fail
  refine hK.out _ _ ?_ (fun hHeld => ?_)
  · exact HS.out _ HJ.out.2
  clear hK K
  try simp only [Act.put, List.setIfInBounds_toArray, List.set_cons_zero, List.set_cons_succ]
  refine held_take (i := 13) (d := 3) (v := ?_) rfl rfl (by kernel_rfl) (by kernel_rfl) (by kernel_rfl) (fun _ _ _ h => h) (Or.inl ⟨by rfl, ?_⟩) hHeld ?_
  rotate_left
  · (intro w hSw; (try dsimp only at hSw); go_simp; all_goals (with_reducible rfl))
  try simp only [Act.put, List.setIfInBounds_toArray, List.set_cons_zero, List.set_cons_succ]
  refine wpAnyH_done (by kernel_rfl) ?_ _
  clear hHeld hu0 hu1 hu2 hu3 hr1 hr2 hr3 huz hcv
  have HJ1 : Hid (Own w9 w0.heap.size (.slice a9 n9 c9) (txnH (i1, i2) plain n1) ∧ Below w0.heap.size w0 w9) := HJ.out
  clear HJ
  obtain ⟨x0, x1, x2, x3, x4⟩ := HS.out _ HJ1.out.2
  go_wp2
  clear x0 x1 x2 x3 x4
  generalize w9 = wA at *
  generalize a9 = oa at *
  generalize n9 = on at *
  generalize c9 = oc at *
  go_loopw [3, 24] (fun v t wr => ∃ (k : Nat) (va : Option Addr) (vn vc : Nat), t = .int .i64 (k : Nat) ∧ k ≤ n1 ∧ v = .slice va vn vc ∧ Hid (Own wr w0.heap.size (.slice va vn vc) (txnH (i1, i2) plain n1 ++ rdsB (l1.take k))) ∧ Hid (Below w0.heap.size w0 wr)) (fun _ t _ => n1 - (intOf t).toNat)
  case atStart => exact ⟨0, _, _, _, rfl, Nat.zero_le _, rfl, by simpa [Hid, rdsB] using HJ1.out.1, HJ1.out.2⟩
  case round =>
    clear HJ1
    obtain ⟨k, va, vn, vc, rfl, hk, rfl, HO, HB⟩ := hrel
    by_cases hlt : k < n1
    · obtain ⟨b, off, rfl, hc⟩ := (HR0.out.later HB.out).at (by omega)
      obtain ⟨d0, d1⟩ := hc k hlt
      clear hc
      have hkl : k < l1.length := by rw [← HN1.out]; exact hlt
      have hx : l1[k]? = some (l1[k]?.getD ⟨⟨#[]⟩, 0⟩) := by rw [List.getElem?_eq_getElem hkl]; rfl
      generalize l1[k]?.getD ⟨⟨#[]⟩, 0⟩ = x at d0 d1 hx
      have hxs := HWR.out.r x (List.mem_of_getElem? hx)
      have HEQ : Hid (rdsB (l1.take (k + 1)) = rdsB (l1.take k) ++ rdB x) := by
        obtain ⟨hk2, e⟩ := List.getElem?_eq_some_iff.1 hx
        rw [Hid, List.take_succ_eq_append_getElem hk2, rdsB_snoc, e]
      have HLN : Hid ((txnH (i1, i2) plain n1 ++ rdsB (l1.take k)).length ≤ 20000) := by
        have h1 := rdsB_len (l1.take k) (fun y hy => (HWR.out.r y (List.mem_of_mem_take hy)).1)
        have h2 := txnH_len (i1, i2) plain n1
        have h3 : (l1.take k).length ≤ 10 := by rw [List.length_take]; omega
        rw [Hid, List.length_append]; omega
      obtain ⟨xk, xm⟩ := x
      simp only at d0 d1 hxs
      obtain ⟨xn, rfl⟩ : ∃ xn : Nat, xm = (xn : Int) := ⟨xm.toNat, by omega⟩
      have HRB : Hid (rdB ⟨xk, (xn : Int)⟩ = textB xk ++ Oct.put xn) := by simp [Hid, rdB]
      obtain ⟨hxk, -, hxn⟩ := hxs
      have hb1 : Below wr.heap.size wr (wr.alloc (.cells #[.string xk, .int .u64 (xn : Nat)] 79)) := (Below.refl _ _).alloc (Nat.le_refl _) _
      have hg1 := heap_alloc_new wr (.cells #[.string xk, .int .u64 (xn : Nat)] 79)
      clear hx hkl
      go_upto_region 5 with fail
      generalize wr.alloc (.cells #[.string xk, .int .u64 (xn : Nat)] 79) = w1 at *
      have HO1 : Hid (Own w1 w0.heap.size (.slice va vn vc) (txnH (i1, i2) plain n1 ++ rdsB (l1.take k))) := HO.out.later hb1
      have HB1 : Hid (Below w0.heap.size w0 w1) := HB.out.trans (hb1.mono HB.out.size)
      have hlt1 : wr.heap.size < w1.heap.size := (Array.getElem?_eq_some_iff.1 hg1).1
      have HG1 : Hid (w1.heap[wr.heap.size]? = some (.cells #[.string xk, .int .u64 (xn : Nat)] 79)) := hg1
      have HS1 : Hid (∀ w', Below w1.heap.size w1 w' → w'.cell? ⟨wr.heap.size, 0, none⟩ = some (.string xk) ∧ w'.cell? ⟨wr.heap.size, 1, none⟩ = some (.int .u64 (xn : Nat))) := fun w' hb => ⟨cell_of_heap (keepc hb hg1) rfl, cell_of_heap (keepc hb hg1) rfl⟩
      have HSF : Hid (∀ wa wb, Below w1.heap.size w1 wa → Fr w0.heap.size [5] wa wb → wb.cell? ⟨wr.heap.size, 0, none⟩ = some (.string xk) ∧ wb.cell? ⟨wr.heap.size, 1, none⟩ = some (.int .u64 (xn : Nat))) := fun wa wb h1 h2 => ⟨cell_of_heap (h2.cells (keepc h1 hg1) (by decide)) rfl, cell_of_heap (h2.cells (keepc h1 hg1) (by decide)) rfl⟩
      clear hb1 hg1 HO HB hlt1 d0 d1
      obtain ⟨LL, hLL⟩ : ∃ LL, LL = txnH (i1, i2) plain n1 ++ rdsB (l1.take k) := ⟨_, rfl⟩
      have HLE : Hid (LL = txnH (i1, i2) plain n1 ++ rdsB (l1.take k)) := hLL
      rw [← hLL] at HO1 HLN
      clear hLL
      have HS0 := HS
      clear HS
      have HS := HS1
      clear HS1
      refine wp_region_held_drew (S := (fun w' => w'.cell? ⟨wr.heap.size, 0, none⟩ = some (.string xk) ∧ w'.cell? ⟨wr.heap.size, 1, none⟩ = some (.int .u64 (xn : Nat)))) (by kernel_rfl) ?_ (fun hHeld => ?_)
      · exact HS.out _ (Below.refl _ _).drew
      have hu0 : Below w1.heap.size w1 w1.drew := (Below.refl _ _).drew
      refine held_take (i := 0) (d := 28) (v := ?_) rfl rfl (by kernel_rfl) (by kernel_rfl) (by kernel_rfl) (fun _ _ _ h => h) (Or.inl ⟨by rfl, ?_⟩) hHeld ?_
      rotate_left
      · (intro w hSw; (try dsimp only at hSw); go_simp; all_goals (with_reducible rfl))
      try simp only [Act.put, List.setIfInBounds_toArray, List.set_cons_zero, List.set_cons_succ]
      refine held_take (i := 1) (d := 29) (v := ?_) rfl rfl (by kernel_rfl) (by kernel_rfl) (by kernel_rfl) (fun _ _ _ h => h) (Or.inl ⟨by rfl, ?_⟩) hHeld ?_
      rotate_left
      · (intro w hSw; (try dsimp only at hSw); go_simp; all_goals (with_reducible rfl))
      try simp only [Act.put, List.setIfInBounds_toArray, List.set_cons_zero, List.set_cons_succ]
      refine held_take (i := 2) (d := 30) (v := ?_) rfl rfl (by kernel_rfl) (by kernel_rfl) (by kernel_rfl) (fun _ _ _ h => h) (Or.inl ⟨by rfl, ?_⟩) hHeld ?_
      rotate_left
      · (intro w hSw; (try dsimp only at hSw); go_simp; all_goals (with_reducible rfl))
      try simp only [Act.put, List.setIfInBounds_toArray, List.set_cons_zero, List.set_cons_succ]
      refine held_take (i := 4) (d := 32) (v := ?_) rfl rfl (by kernel_rfl) (by kernel_rfl) (by kernel_rfl) (fun _ _ _ h => h) (Or.inl ⟨by rfl, ?_⟩) hHeld ?_
      rotate_left
      · (intro w hSw; (try dsimp only at hSw); go_simp; all_goals (with_reducible rfl))
      try simp only [Act.put, List.setIfInBounds_toArray, List.set_cons_zero, List.set_cons_succ]
      refine held_take (i := 5) (d := 33) (v := ?_) rfl rfl (by kernel_rfl) (by kernel_rfl) (by kernel_rfl) (fun _ _ _ h => h) (Or.inl ⟨by rfl, ?_⟩) hHeld ?_
      rotate_left
      · (intro w hSw; (try dsimp only at hSw); go_simp; all_goals (with_reducible rfl))
      try simp only [Act.put, List.setIfInBounds_toArray, List.set_cons_zero, List.set_cons_succ]
      refine wpAnyH_ready (rs := [3]) (by kernel_rfl) (by simp) ?_
      refine AllReadyH.cons rfl (fun K hK => ?_) AllReadyH.nil
      go_simp
      have hq := etext_any xk w1.drew hxk
      refine hq.mono ?_
      clear hq
      rintro e u1 ⟨jb1, jn1, jc1, rfl, hr1, hx1⟩
      have hu1 : Below w1.heap.size w1 u1 := hu0.trans (hx1.mono hu0.size)
      clear hx1
      go_wp2_with fail
      refine hK.out _ _ ?_ (fun hHeld => ?_)
      · exact HS.out _ hu1
      clear hK K
      try simp only [Act.put, List.setIfInBounds_toArray, List.set_cons_zero, List.set_cons_succ]
      refine wpAnyH_ready (rs := [6]) (by kernel_rfl) (by simp) ?_
      refine AllReadyH.cons rfl (fun K hK => ?_) AllReadyH.nil
      go_simp
      have hq := enum_any xn u1 (by omega)
      refine hq.mono ?_
      clear hq
      rintro e u2 ⟨jb2, jn2, jc2, rfl, hr2, hx2⟩
      replace hr1 : Row u2 jb1 jn1 (textB xk) ∧ (jb1 = none → jc1 = 0) := ⟨hr1.1.later hx2, hr1.2⟩
      have hu2 : Below w1.heap.size w1 u2 := hu1.trans (hx2.mono hu1.size)
      clear hx2
      go_wp2_with fail
      refine hK.out _ _ ?_ (fun hHeld => ?_)
      · exact HS.out _ hu2
      clear hK K
      try simp only [Act.put, List.setIfInBounds_toArray, List.set_cons_zero, List.set_cons_succ]
      have hzb : Below u2.heap.size u2 (u2.alloc (.cells #[.slice jb1 jn1 jc1, .slice jb2 jn2 jc2] 46)) := (Below.refl _ _).alloc (Nat.le_refl _) _
      have hzn := heap_alloc_new u2 (.cells #[.slice jb1 jn1 jc1, .slice jb2 jn2 jc2] 46)
      have huz : Below w1.heap.size w1 (u2.alloc (.cells #[.slice jb1 jn1 jc1, .slice jb2 jn2 jc2] 46)) := hu2.trans (hzb.mono hu2.size)
      refine wpAnyH_ready (rs := [7]) (by kernel_rfl) (by simp) ?_
      refine AllReadyH.cons rfl (fun K hK => ?_) AllReadyH.nil
      go_simp
      refine hK.out _ _ ?_ (fun hHeld => ?_)
      · exact HS.out _ huz
      clear hK K
      try simp only [Act.put, List.setIfInBounds_toArray, List.set_cons_zero, List.set_cons_succ]
      have hj := join_two hzn (⟨hr1.1.later hzb, hr1.2⟩) (⟨hr2.1.later hzb, hr2.2⟩) (by rw [List.length_append]; have := textB_len xk hxk; omega) (by rw [List.length_append]; have := textB_len xk hxk; have := put_len xn; omega)
      generalize u2.alloc (.cells #[.slice jb1 jn1 jc1, .slice jb2 jn2 jc2] 46) = uz at *
      clear hzn hzb
      refine wpAnyH_ready (rs := [8]) (by kernel_rfl) (by simp) ?_
      refine AllReadyH.cons rfl (fun K hK => ?_) AllReadyH.nil
      go_simp
      refine hj.mono ?_
      clear hj
      rintro e w9 ⟨⟨v9, rfl, ho9⟩, hx9⟩
      obtain ⟨a9, n9, c9, rfl⟩ : ∃ a n c, v9 = .slice a n c := by obtain ⟨a, n, c, e, -⟩ := ho9.slice; exact ⟨_, _, _, e⟩
      have HJ : Hid (Own w9 w1.heap.size (.slice a9 n9 c9) ((textB xk) ++ (Oct.put xn)) ∧ Below w1.heap.size w1 w9) := ⟨ho9.mono huz.size, huz.trans (hx9.mono huz.size)⟩
      clear ho9 hx9
      go_wp2_with fail
      refine hK.out _ _ ?_ (fun hHeld => ?_)
      · exact HS.out _ HJ.out.2
      clear hK K
      try simp only [Act.put, List.setIfInBounds_toArray, List.set_cons_zero, List.set_cons_succ]
      refine wpAnyH_ready (rs := [9]) (by kernel_rfl) (by simp) ?_
      refine AllReadyH.cons rfl (fun K hK => ?_) AllReadyH.nil
      have hrj : Row w9 a9 n9 ((textB xk) ++ (Oct.put xn)) ∧ (a9 = none → c9 = 0) := by
        obtain ⟨a, n, c, e, hr, _, _, hz, _⟩ := HJ.out.1.slice
        simp only [Value.slice.injEq] at e
        obtain ⟨rfl, rfl, rfl⟩ := e
        exact ⟨hr, hz⟩
      have hbz : w0.heap.size ≤ w9.heap.size := Nat.le_trans (HB1.out.size) HJ.out.2.size
      refine step_append_fr (by rfl) _ _ (by rfl) (w0.heap.size) _ (LL) (by rfl) (HO1.out.later HJ.out.2) a9 n9 c9 ((textB xk) ++ (Oct.put xn)) (by rfl) hrj.1 hrj.2 (by have h1 := HLN.out; have h2 := hrj.1.1; have h3 := textB_len xk hxk; have h4 := put_len xn; rw [List.length_append] at h2; omega) hbz ?_
      intro v8 w8 ho8 hf8
      obtain ⟨a8, n8, c8, rfl⟩ : ∃ a n c, v8 = .slice a n c := by obtain ⟨a, n, c, e, -⟩ := ho8.slice; exact ⟨_, _, _, e⟩
      have HA : Hid (Own w8 (w0.heap.size) (.slice a8 n8 c8) (LL ++ ((textB xk) ++ (Oct.put xn))) ∧ Below (w0.heap.size) w1 w8) := ⟨ho8, (HJ.out.2.mono (HB1.out.size)).trans (hf8.below hbz)⟩
      show K (Act.put _ (some 37) (.slice a8 n8 c8)) w8
      have hsf := HSF.out w9 w8 HJ.out.2 hf8
      clear ho8 hf8 hrj
      refine hK.out _ _ ?_ (fun hHeld => ?_)
      · exact hsf
      clear hK K hsf
      try simp only [Act.put, List.setIfInBounds_toArray, List.set_cons_zero, List.set_cons_succ]
      refine held_take (i := 10) (d := 3) (v := ?_) rfl rfl (by kernel_rfl) (by kernel_rfl) (by kernel_rfl) (fun _ _ _ h => h) (Or.inl ⟨by rfl, ?_⟩) hHeld ?_
      rotate_left
      · (intro w hSw; (try dsimp only at hSw); go_simp; all_goals (with_reducible rfl))
      try simp only [Act.put, List.setIfInBounds_toArray, List.set_cons_zero, List.set_cons_succ]
      refine wpAnyH_done (by kernel_rfl) ?_ _
      clear hHeld HJ
      go_wp2
      go_roundw
      case rel => exact ⟨k + 1, _, _, _, by go_num, by omega, rfl, by rw [HEQ.out, HRB.out, ← List.append_assoc, ← HLE.out]; exact HA.out.1, HB1.out.trans HA.out.2⟩
      case measure => simp [intOf]; omega
    · have hkk : l1.take k = l1 := List.take_of_length_le (by rw [← HN1.out]; omega)
      rw [hkk] at HO
      clear hkk
      have HLN : Hid ((txnH (i1, i2) plain n1 ++ rdsB l1).length ≤ 20000) := by
        have h1 := rdsB_len l1 (fun y hy => (HWR.out.r y hy).1)
        have h2 := txnH_len (i1, i2) plain n1
        have h3 := HWR.out.n1
        rw [Hid, List.length_append]; omega
      obtain ⟨x0, x1, x2, x3, x4⟩ := HS.out _ HB.out
      have hcv : IntKind.u64.wrap (n2 : Int) = (n2 : Int) := by simp [IntKind.wrap, IntKind.bits]; omega
      have hcall := enum_any n2 wr (by omega)
      obtain ⟨HD, hHD⟩ : ∃ HD, HD = txnH (i1, i2) plain n1 ++ rdsB l1 := ⟨_, rfl⟩
      have HDE : Hid (HD = txnH (i1, i2) plain n1 ++ rdsB l1) := hHD
      rw [← hHD] at HO HLN
      clear hHD
      go_wp2_with fail
      refine hcall.mono ?_
      clear hcall hcv x0 x1 x2 x3 x4
      rintro e wb ⟨ja, jn, jc, rfl, ⟨hjr, hjz⟩, hjb⟩
      have HOB : Hid (Own wb w0.heap.size (.slice va vn vc) HD) := HO.out.later hjb
      have HBB : Hid (Below w0.heap.size w0 wb) := HB.out.trans (hjb.mono HB.out.size)
      have HJR : Hid (Row wb ja jn (Oct.put n2) ∧ (ja = none → jc = 0)) := ⟨hjr, hjz⟩
      have HLB : Hid (HD.length + jn ≤ 140737488355328) := by
        have h1 := HLN.out
        have h2 := hjr.1
        have h3 := put_len n2
        show _ ≤ _
        omega
      clear hjr hjz hjb HO HB HLN
      go_upto_region 8 with (at_builtin; refine wp_append_row rfl _ _ rfl w0.heap.size _ HD rfl HOB.out ja jn jc (Oct.put n2) rfl HJR.out.1 HJR.out.2 HLB.out HBB.out.size ?_; intro v5 w5 ho5 hb5; obtain ⟨oa2, on2, oc2, rfl⟩ : ∃ a n c, v5 = .slice a n c := (by obtain ⟨a, n, c, e, -⟩ := ho5.slice; exact ⟨_, _, _, e⟩); have HJ2 : Hid (Own w5 w0.heap.size (.slice oa2 on2 oc2) (HD ++ Oct.put n2) ∧ Below w0.heap.size w0 w5) := ⟨ho5, HBB.out.trans hb5⟩; clear ho5 hb5)
      clear HOB HBB HJR HLB
      obtain ⟨x0, x1, x2, x3, x4⟩ := HS.out _ HJ2.out.2
      go_wp2
      clear x0 x1 x2 x3 x4
      generalize w5 = wC at *
      go_loopw [3, 49] (fun v t wr => ∃ (k : Nat) (va : Option Addr) (vn vc : Nat), t = .int .i64 (k : Nat) ∧ k ≤ n2 ∧ v = .slice va vn vc ∧ Hid (Own wr w0.heap.size (.slice va vn vc) (HD ++ Oct.put n2 ++ wrsB (l2.take k))) ∧ Hid (Below w0.heap.size w0 wr)) (fun _ t _ => n2 - (intOf t).toNat)
      case atStart => exact ⟨0, _, _, _, rfl, Nat.zero_le _, rfl, by simpa [Hid, wrsB] using HJ2.out.1, HJ2.out.2⟩
      case round =>
        clear HJ2
        obtain ⟨k, va, vn, vc, rfl, hk, rfl, HO, HB⟩ := hrel
        have HLN : Hid ((HD ++ Oct.put n2 ++ wrsB (l2.take k)).length ≤ 50000) := by
          have h1 := rdsB_len l1 (fun y hy => (HWR.out.r y hy).1)
          have h2 := txnH_len (i1, i2) plain n1
          have h3 := HWR.out.n1
          have h4 := wrsB_len (l2.take k) (fun y hy => HWR.out.w y (List.mem_of_mem_take hy))
          have h5 : (l2.take k).length ≤ 10 := by rw [List.length_take]; omega
          have h6 := put_len n2
          rw [Hid, HDE.out]
          simp only [List.length_append]
          omega
        by_cases hlt : k < n2
        · obtain ⟨b, off, rfl, hc⟩ := (HW0.out.later HB.out).at (by omega)
          obtain ⟨d0, d1, d2⟩ := hc k hlt
          clear hc
          have hkl : k < l2.length := by rw [← HN2.out]; exact hlt
          have hx : l2[k]? = some (l2[k]?.getD ⟨⟨#[]⟩, ⟨#[]⟩, false⟩) := by rw [List.getElem?_eq_getElem hkl]; rfl
          generalize l2[k]?.getD ⟨⟨#[]⟩, ⟨#[]⟩, false⟩ = x at d0 d1 d2 hx
          have hxs := HWR.out.w x (List.mem_of_getElem? hx)
          have HEQ : Hid (wrsB (l2.take (k + 1)) = wrsB (l2.take k) ++ wrB x) := by
            obtain ⟨hk2, e⟩ := List.getElem?_eq_some_iff.1 hx
            rw [Hid, List.take_succ_eq_append_getElem hk2, wrsB_snoc, e]
          obtain ⟨xk, xv, xg⟩ := x
          simp only at d0 d1 d2 hxs
          have HRB : Hid (wrB ⟨xk, xv, xg⟩ = textB xk ++ textB xv ++ Oct.put (bitN xg)) := rfl
          obtain ⟨hxk, hxv⟩ := hxs
          have hb1 : Below wr.heap.size wr (wr.alloc (.cells #[.string xk, .string xv, .bool xg] 80)) := (Below.refl _ _).alloc (Nat.le_refl _) _
          have hg1 := heap_alloc_new wr (.cells #[.string xk, .string xv, .bool xg] 80)
          clear hx hkl
          go_upto_region 11 with fail
          generalize wr.alloc (.cells #[.string xk, .string xv, .bool xg] 80) = w1 at *
          have HO1 : Hid (Own w1 w0.heap.size (.slice va vn vc) (HD ++ Oct.put n2 ++ wrsB (l2.take k))) := HO.out.later hb1
          have HB1 : Hid (Below w0.heap.size w0 w1) := HB.out.trans (hb1.mono HB.out.size)
          have HS1 : Hid (∀ w', Below w1.heap.size w1 w' → w'.cell? ⟨wr.heap.size, 0, none⟩ = some (.string xk) ∧ w'.cell? ⟨wr.heap.size, 1, none⟩ = some (.string xv) ∧ w'.cell? ⟨wr.heap.size, 2, none⟩ = some (.bool xg)) := fun w' hb => ⟨cell_of_heap (keepc hb hg1) rfl, cell_of_heap (keepc hb hg1) rfl, cell_of_heap (keepc hb hg1) rfl⟩
          have HSF : Hid (∀ wa wb, Below w1.heap.size w1 wa → Fr w0.heap.size [5] wa wb → wb.cell? ⟨wr.heap.size, 0, none⟩ = some (.string xk) ∧ wb.cell? ⟨wr.heap.size, 1, none⟩ = some (.string xv) ∧ wb.cell? ⟨wr.heap.size, 2, none⟩ = some (.bool xg)) := fun wa wb h1 h2 => ⟨cell_of_heap (h2.cells (keepc h1 hg1) (by decide)) rfl, cell_of_heap (h2.cells (keepc h1 hg1) (by decide)) rfl, cell_of_heap (h2.cells (keepc h1 hg1) (by decide)) rfl⟩
          clear hb1 hg1 HO HB d0 d1 d2
          obtain ⟨LL, hLL⟩ : ∃ LL, LL = HD ++ Oct.put n2 ++ wrsB (l2.take k) := ⟨_, rfl⟩
          have HLE : Hid (LL = HD ++ Oct.put n2 ++ wrsB (l2.take k)) := hLL
          rw [← hLL] at HO1 HLN
          clear hLL
          have HS0 := HS
          clear HS
          have HS := HS1
          clear HS1
          refine wp_region_held_drew (S := (fun w' => w'.cell? ⟨wr.heap.size, 0, none⟩ = some (.string xk) ∧ w'.cell? ⟨wr.heap.size, 1, none⟩ = some (.string xv) ∧ w'.cell? ⟨wr.heap.size, 2, none⟩ = some (.bool xg))) (by kernel_rfl) ?_ (fun hHeld => ?_)
          · exact HS.out _ (Below.refl _ _).drew
          have hu0 : Below w1.heap.size w1 w1.drew := (Below.refl _ _).drew
          refine held_take (i := 0) (d := 53) (v := ?_) rfl rfl (by kernel_rfl) (by kernel_rfl) (by kernel_rfl) (fun _ _ _ h => h) (Or.inl ⟨by rfl, ?_⟩) hHeld ?_
          rotate_left
          · (intro w hSw; (try dsimp only at hSw); go_simp; all_goals (with_reducible rfl))
          try simp only [Act.put, List.setIfInBounds_toArray, List.set_cons_zero, List.set_cons_succ]
          refine held_take (i := 1) (d := 54) (v := ?_) rfl rfl (by kernel_rfl) (by kernel_rfl) (by kernel_rfl) (fun _ _ _ h => h) (Or.inl ⟨by rfl, ?_⟩) hHeld ?_
          rotate_left
          · (intro w hSw; (try dsimp only at hSw); go_simp; all_goals (with_reducible rfl))
          try simp only [Act.put, List.setIfInBounds_toArray, List.set_cons_zero, List.set_cons_succ]
          refine held_take (i := 2) (d := 55) (v := ?_) rfl rfl (by kernel_rfl) (by kernel_rfl) (by kernel_rfl) (fun _ _ _ h => h) (Or.inl ⟨by rfl, ?_⟩) hHeld ?_
          rotate_left
          · (intro w hSw; (try dsimp only at hSw); go_simp; all_goals (with_reducible rfl))
          try simp only [Act.put, List.setIfInBounds_toArray, List.set_cons_zero, List.set_cons_succ]
          refine held_take (i := 4) (d := 57) (v := ?_) rfl rfl (by kernel_rfl) (by kernel_rfl) (by kernel_rfl) (fun _ _ _ h => h) (Or.inl ⟨by rfl, ?_⟩) hHeld ?_
          rotate_left
          · (intro w hSw; (try dsimp only at hSw); go_simp; all_goals (with_reducible rfl))
          try simp only [Act.put, List.setIfInBounds_toArray, List.set_cons_zero, List.set_cons_succ]
          refine held_take (i := 5) (d := 58) (v := ?_) rfl rfl (by kernel_rfl) (by kernel_rfl) (by kernel_rfl) (fun _ _ _ h => h) (Or.inl ⟨by rfl, ?_⟩) hHeld ?_
          rotate_left
          · (intro w hSw; (try dsimp only at hSw); go_simp; all_goals (with_reducible rfl))
          try simp only [Act.put, List.setIfInBounds_toArray, List.set_cons_zero, List.set_cons_succ]
          refine held_take (i := 7) (d := 60) (v := ?_) rfl rfl (by kernel_rfl) (by kernel_rfl) (by kernel_rfl) (fun _ _ _ h => h) (Or.inl ⟨by rfl, ?_⟩) hHeld ?_
          rotate_left
          · (intro w hSw; (try dsimp only at hSw); go_simp; all_goals (with_reducible rfl))
          try simp only [Act.put, List.setIfInBounds_toArray, List.set_cons_zero, List.set_cons_succ]
          refine held_take (i := 8) (d := 61) (v := ?_) rfl rfl (by kernel_rfl) (by kernel_rfl) (by kernel_rfl) (fun _ _ _ h => h) (Or.inl ⟨by rfl, ?_⟩) hHeld ?_
          rotate_left
          · (intro w hSw; (try dsimp only at hSw); go_simp; all_goals (with_reducible rfl))
          try simp only [Act.put, List.setIfInBounds_toArray, List.set_cons_zero, List.set_cons_succ]
          refine wpAnyH_ready (rs := [3]) (by kernel_rfl) (by simp) ?_
          refine AllReadyH.cons rfl (fun K hK => ?_) AllReadyH.nil
          go_simp
          have hq := etext_any xk w1.drew hxk
          refine hq.mono ?_
          clear hq
          rintro e u1 ⟨jb1, jn1, jc1, rfl, hr1, hx1⟩
          have hu1 : Below w1.heap.size w1 u1 := hu0.trans (hx1.mono hu0.size)
          clear hx1
          go_wp2_with fail
          refine hK.out _ _ ?_ (fun hHeld => ?_)
          · exact HS.out _ hu1
          clear hK K
          try simp only [Act.put, List.setIfInBounds_toArray, List.set_cons_zero, List.set_cons_succ]
          refine wpAnyH_ready (rs := [6]) (by kernel_rfl) (by simp) ?_
          refine AllReadyH.cons rfl (fun K hK => ?_) AllReadyH.nil
          go_simp
          have hq := etext_any xv u1 hxv
          refine hq.mono ?_
          clear hq
          rintro e u2 ⟨jb2, jn2, jc2, rfl, hr2, hx2⟩
          replace hr1 : Row u2 jb1 jn1 (textB xk) ∧ (jb1 = none → jc1 = 0) := ⟨hr1.1.later hx2, hr1.2⟩
          have hu2 : Below w1.heap.size w1 u2 := hu1.trans (hx2.mono hu1.size)
          clear hx2
          go_wp2_with fail
          refine hK.out _ _ ?_ (fun hHeld => ?_)
          · exact HS.out _ hu2
          clear hK K
          try simp only [Act.put, List.setIfInBounds_toArray, List.set_cons_zero, List.set_cons_succ]
          refine wpAnyH_ready (rs := [9]) (by kernel_rfl) (by simp) ?_
          refine AllReadyH.cons rfl (fun K hK => ?_) AllReadyH.nil
          go_simp
          have hq := eflag_any xg u2
          refine hq.mono ?_
          clear hq
          rintro e u3 ⟨jb3, jn3, jc3, rfl, hr3, hx3⟩
          replace hr1 : Row u3 jb1 jn1 (textB xk) ∧ (jb1 = none → jc1 = 0) := ⟨hr1.1.later hx3, hr1.2⟩
          replace hr2 : Row u3 jb2 jn2 (textB xv) ∧ (jb2 = none → jc2 = 0) := ⟨hr2.1.later hx3, hr2.2⟩
          have hu3 : Below w1.heap.size w1 u3 := hu2.trans (hx3.mono hu2.size)
          clear hx3
          go_wp2_with fail
          refine hK.out _ _ ?_ (fun hHeld => ?_)
          · exact HS.out _ hu3
          clear hK K
          try simp only [Act.put, List.setIfInBounds_toArray, List.set_cons_zero, List.set_cons_succ]
          have hzb : Below u3.heap.size u3 (u3.alloc (.cells #[.slice jb1 jn1 jc1, .slice jb2 jn2 jc2, .slice jb3 jn3 jc3] 46)) := (Below.refl _ _).alloc (Nat.le_refl _) _
          have hzn := heap_alloc_new u3 (.cells #[.slice jb1 jn1 jc1, .slice jb2 jn2 jc2, .slice jb3 jn3 jc3] 46)
          have huz : Below w1.heap.size w1 (u3.alloc (.cells #[.slice jb1 jn1 jc1, .slice jb2 jn2 jc2, .slice jb3 jn3 jc3] 46)) := hu3.trans (hzb.mono hu3.size)
          refine wpAnyH_ready (rs := [10]) (by kernel_rfl) (by simp) ?_
          refine AllReadyH.cons rfl (fun K hK => ?_) AllReadyH.nil
          go_simp
          refine hK.out _ _ ?_ (fun hHeld => ?_)
          · exact HS.out _ huz
          clear hK K
          try simp only [Act.put, List.setIfInBounds_toArray, List.set_cons_zero, List.set_cons_succ]
          have hj := join_three hzn (⟨hr1.1.later hzb, hr1.2⟩) (⟨hr2.1.later hzb, hr2.2⟩) (⟨hr3.1.later hzb, hr3.2⟩) (by simp only [List.length_append]; have := textB_len xk hxk; omega) (by simp only [List.length_append]; have := textB_len xk hxk; have := textB_len xv hxv; have := put_len (bitN xg); omega)
          generalize u3.alloc (.cells #[.slice jb1 jn1 jc1, .slice jb2 jn2 jc2, .slice jb3 jn3 jc3] 46) = uz at *
          clear hzn hzb
          refine wpAnyH_ready (rs := [11]) (by kernel_rfl) (by simp) ?_
          refine AllReadyH.cons rfl (fun K hK => ?_) AllReadyH.nil
          go_simp
          refine hj.mono ?_
          clear hj
          rintro e w9 ⟨⟨v9, rfl, ho9⟩, hx9⟩
          obtain ⟨a9, n9, c9, rfl⟩ : ∃ a n c, v9 = .slice a n c := by obtain ⟨a, n, c, e, -⟩ := ho9.slice; exact ⟨_, _, _, e⟩
          have HJ : Hid (Own w9 w1.heap.size (.slice a9 n9 c9) ((textB xk) ++ (textB xv) ++ (Oct.put (bitN xg))) ∧ Below w1.heap.size w1 w9) := ⟨ho9.mono huz.size, huz.trans (hx9.mono huz.size)⟩
          clear ho9 hx9
          go_wp2_with fail
          refine hK.out _ _ ?_ (fun hHeld => ?_)
          · exact HS.out _ HJ.out.2
          clear hK K
          try simp only [Act.put, List.setIfInBounds_toArray, List.set_cons_zero, List.set_cons_succ]
          refine wpAnyH_ready (rs := [12]) (by kernel_rfl) (by simp) ?_
          refine AllReadyH.cons rfl (fun K hK => ?_) AllReadyH.nil
          have hrj : Row w9 a9 n9 ((textB xk) ++ (textB xv) ++ (Oct.put (bitN xg))) ∧ (a9 = none → c9 = 0) := by
            obtain ⟨a, n, c, e, hr, _, _, hz, _⟩ := HJ.out.1.slice
            simp only [Value.slice.injEq] at e
            obtain ⟨rfl, rfl, rfl⟩ := e
            exact ⟨hr, hz⟩
          have hbz : w0.heap.size ≤ w9.heap.size := Nat.le_trans (HB1.out.size) HJ.out.2.size
          refine step_append_fr (by rfl) _ _ (by rfl) (w0.heap.size) _ (LL) (by rfl) (HO1.out.later HJ.out.2) a9 n9 c9 ((textB xk) ++ (textB xv) ++ (Oct.put (bitN xg))) (by rfl) hrj.1 hrj.2 (by have h1 := HLN.out; have h2 := hrj.1.1; have h3 := textB_len xk hxk; have h4 := textB_len xv hxv; have h5 := put_len (bitN xg); simp only [List.length_append] at h2; omega) hbz ?_
          intro v8 w8 ho8 hf8
          obtain ⟨a8, n8, c8, rfl⟩ : ∃ a n c, v8 = .slice a n c := by obtain ⟨a, n, c, e, -⟩ := ho8.slice; exact ⟨_, _, _, e⟩
          have HA : Hid (Own w8 (w0.heap.size) (.slice a8 n8 c8) (LL ++ ((textB xk) ++ (textB xv) ++ (Oct.put (bitN xg)))) ∧ Below (w0.heap.size) w1 w8) := ⟨ho8, (HJ.out.2.mono (HB1.out.size)).trans (hf8.below hbz)⟩
          show K (Act.put _ (some 65) (.slice a8 n8 c8)) w8
          have hsf := HSF.out w9 w8 HJ.out.2 hf8
          clear ho8 hf8 hrj
          refine hK.out _ _ ?_ (fun hHeld => ?_)
          · exact hsf
          clear hK K hsf
          try simp only [Act.put, List.setIfInBounds_toArray, List.set_cons_zero, List.set_cons_succ]
          refine held_take (i := 13) (d := 3) (v := ?_) rfl rfl (by kernel_rfl) (by kernel_rfl) (by kernel_rfl) (fun _ _ _ h => h) (Or.inl ⟨by rfl, ?_⟩) hHeld ?_
          rotate_left
          · (intro w hSw; (try dsimp only at hSw); go_simp; all_goals (with_reducible rfl))
          try simp only [Act.put, List.setIfInBounds_toArray, List.set_cons_zero, List.set_cons_succ]
          refine wpAnyH_done (by kernel_rfl) ?_ _
          clear hHeld HJ
          go_wp2
          go_roundw
          case rel => exact ⟨k + 1, _, _, _, by go_num, by omega, rfl, by rw [HEQ.out, HRB.out, ← List.append_assoc, ← HLE.out]; exact HA.out.1, HB1.out.trans HA.out.2⟩
          case measure => simp [intOf]; omega
        · have hkk : l2.take k = l2 := List.take_of_length_le (by rw [← HN2.out]; omega)
          rw [hkk] at HO
          have HF : Hid (Own wr w.heap.size (.slice va vn vc) (txnB (i1, i2) plain l1 l2) ∧ Below w.heap.size w wr) := by
            have e1 : txnB (i1, i2) plain l1 l2 = HD ++ Oct.put n2 ++ wrsB l2 := by
              rw [HDE.out, HN2.out, HN1.out]; rfl
            rw [e1]
            exact ⟨HO.out.mono HB0.out.size, HB0.out.trans (HB.out.mono HB0.out.size)⟩
          clear hkk HO HB HLN
          go_wp2
          go_ret
          exact ⟨⟨_, rfl, HF.out.1⟩, HF.out.2⟩
end Go.Proofs.YteokhedljfakkaaDoor
