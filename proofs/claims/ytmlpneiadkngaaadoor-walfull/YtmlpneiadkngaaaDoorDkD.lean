/- What package disk's Append and Read do: contracts. -/
import Derived.Test.YtmlpneiadkngaaaDoorDkC
namespace Go.Proofs.YtmlpneiadkngaaaDoor
open Go.RowKit

/-- 'append(x, y...)', x a row of its own: where the new one lies -/
theorem oper_append_rowG {w : World} {o : Oper} {a : Act} {K : Act → World → Prop} {Q : Exit → Act → World → Prop} (s x : Operand)
    (ho : o.op = .call { callee := .builtin .append, args := #[s, x], argTypes := #[22, 22] })
    (base : Nat) (v : Value) (xs : List Nat) (hs : a.eval s = v) (hown : Own w base v xs)
    (ao : Option Addr) (m c : Nat) (ns : List Nat) (hx : a.eval x = .slice ao m c) (hr : Row w ao m ns) (hz : ao = none → c = 0)
    (hbytes : xs.length + m ≤ 140737488355328) (hbase : base ≤ w.heap.size)
    (h : ∀ v' w', Own w' base v' (xs ++ ns) → w.grownBy w' v.ownBlock → (v'.ownBlock = v.ownBlock ∨ v'.ownBlock = some w.heap.size) → K (a.put o.dst v') w') : Oper.wp Tryd.prog o a w K Q := by
  obtain ⟨i0, hi, hz0, hz1, hz2⟩ := info_parts Tryd.info_5
  have hall : ∀ y ∈ xs ++ ns, y < 256 := by
    intro y hy
    rcases List.mem_append.1 hy with h1 | h1
    · exact hown.2 y h1
    · exact hr.2.1 y h1
  cases ao with
  | none =>
    have hns : ns = [] := by
      rcases hr.2.2.2 with h1 | ⟨b, off, h1, _⟩
      · exact h1
      · cases h1
    subst hns
    have hm : m = 0 := hr.1.symm
    subst hm
    rw [hz rfl] at hx
    have hrun := run_append_owned_none (P := Tryd.prog) (w := w) base 22 o.type 5 i0 1 Tryd.underlying22 hi v _ _ hown.1
    unfold Oper.wp
    simp [execOp, ho, resolve, invoke, builtin, hs, hx, hrun, Result.andThen]
    exact h v w (by simpa using hown) (World.grownBy.refl _ _) (.inl rfl)
  | some ad =>
    have hnews : ∀ j u, (cellsOf ns)[j]? = some u → w.cell? (ad.add j) = some u := by
      rcases hr.2.2.2 with rfl | ⟨b, off, h1, hc⟩
      · intro j u hj; simp [cellsOf] at hj
      · simp only [Option.some.injEq] at h1
        subst h1
        exact cellsOf_row hr
    have hlen := hr.1
    have hlc : (cellsOf ns).length = m * 1 := by simp [cellsOf]; omega
    obtain ⟨v', w', hrun, h1, h2, _⟩ := run_append_own (P := Tryd.prog) w base 22 o.type 5 i0 (.int .u8 0) 1 1 Tryd.underlying22 hi hz0 hz1 hz2 rfl (by decide) v _ _ hown.1 ad m c (cellsOf ns) hlc hnews cellsOf_one (by unfold maxLen; omega) (by omega) hbase
    have hwhere : v'.ownBlock = v.ownBlock ∨ v'.ownBlock = some w.heap.size := by
      rcases hown.1.2 with ⟨rfl, hn⟩ | ⟨g, cap, cur, rfl, hbg, hg, hnc, hcm, hcs, htake⟩
      · by_cases hm : m = 0
        · subst hm
          left
          have hnil : ns = [] := List.length_eq_zero_iff.1 hlen
          subst hnil
          have : (Builtin.append_ #[22, 22] o.type #[.slice none 0 0, .slice (some ad) 0 c]).run Tryd.prog w = .ok (.slice none 0 0) w := by
            simp [Builtin.append_, run_underlying Tryd.underlying22, sizeOf, typeInfo, hi, Builtin.lenOf, Builtin.firstCells, loadCells, loadCellsFrom]
          rw [this] at hrun
          simp only [Result.ok.injEq] at hrun
          rw [← hrun.1]
        · right
          have hr2 := run_append_nil (P := Tryd.prog) w 22 o.type 5 i0 (.int .u8 0) Tryd.underlying22 hi hz0 ad m c (cellsOf ns) (by rw [hz1]; exact hlc) hnews (by omega) (by omega) (by rw [hz2]; omega)
          rw [hr2] at hrun
          simp only [Result.ok.injEq] at hrun
          rw [← hrun.1]
          rfl
      · by_cases hroom : xs.length + m ≤ cap
        · left
          have hr2 := run_append_room (P := Tryd.prog) w 22 o.type 5 i0 Tryd.underlying22 hi g xs.length cap cur hg ad m c (cellsOf ns) (by rw [hz1]; exact hlc) hnews cellsOf_one hroom (by rw [hz1, hlc, hcs]; omega)
          rw [hr2] at hrun
          simp only [Result.ok.injEq] at hrun
          rw [← hrun.1]
          rfl
        · right
          have hr2 := run_append_grow (P := Tryd.prog) w 22 o.type 5 i0 (.int .u8 0) Tryd.underlying22 hi hz0 ⟨g, 0, none⟩ xs.length cap (cellsOf xs) (by rw [hz1]; exact hown.1.1) (hown.1.cells rfl) ad m c (cellsOf ns) (by rw [hz1]; exact hlc) hnews (by omega) (by omega) (growslice_fits (by omega) (by rw [hz2]; omega))
          rw [hr2] at hrun
          simp only [Result.ok.injEq] at hrun
          rw [← hrun.1]
          rfl
    unfold Oper.wp execOp
    simp only [ho, resolve, invoke, builtin, Sem.run_bind, Sem.run_pure, Result.andThen_ok, List.map_toArray, List.map_cons, List.map_nil, hs, hx, hrun]
    refine h v' w' ⟨?_, hall⟩ h2 hwhere
    rw [cellsOf_append, List.length_append, hlen]
    exact h1
theorem wp_append_rowG {w : World} {ops : Array Oper} {rest : List Oper} {o : Oper} {a : Act} {Q : Exit → Act → World → Prop} (hgd : o.guard = none) (s x : Operand)
    (ho : o.op = .call { callee := .builtin .append, args := #[s, x], argTypes := #[22, 22] })
    (base : Nat) (v : Value) (xs : List Nat) (hs : a.eval s = v) (hown : Own w base v xs)
    (ao : Option Addr) (m c : Nat) (ns : List Nat) (hx : a.eval x = .slice ao m c) (hr : Row w ao m ns) (hz : ao = none → c = 0)
    (hbytes : xs.length + m ≤ 140737488355328) (hbase : base ≤ w.heap.size)
    (h : ∀ v' w', Own w' base v' (xs ++ ns) → w.grownBy w' v.ownBlock → (v'.ownBlock = v.ownBlock ∨ v'.ownBlock = some w.heap.size) → wpList Tryd.prog ops Q rest (a.put o.dst v') w') : wpList Tryd.prog ops Q (o :: rest) a w :=
  wpList_plain hgd fun _ hK => oper_append_rowG s x ho base v xs hs hown ao m c ns hx hr hz hbytes hbase fun v' w' h2 h3 h4 => hK _ _ (h v' w' h2 h3 h4)

theorem Row.not_disk {w : World} {ao : Option Addr} {m g : Nat} {ns : List Nat} {S : Nat → Prop} {d : DS} (hr : Row w ao m ns) (h : Dk w S g d) : ∀ x, ao = some x → 0 < m → x.block ≠ g := by
  intro x hx hm e
  obtain ⟨b, off, h1, hc⟩ := hr.at hm
  rw [hx] at h1
  simp only [Option.some.injEq] at h1
  subst h1
  simp only at e
  subst e
  obtain ⟨a0, n0, c0, a1, n1, c1, hh, _⟩ := h
  have := hc 0 hm
  unfold World.cell? at this
  rw [hh] at this
  simp only [Option.isSome_none, Bool.false_eq_true, if_false, Nat.add_zero] at this
  rcases off with _ | _ | _ | _ | _ | _ | _ | _ | off <;> simp at this

theorem grown_kept {w w' : World} {g : Nat} {row : Option Nat} {o : Obj} (hg : w.grownBy w' row) (hh : w.heap[g]? = some o) (hn : ∀ k, row = some k → k ≠ g) : w'.heap[g]? = some o := by
  rw [hg.block g (Array.getElem?_eq_some_iff.1 hh).1 (fun e => hn g e.symm rfl)]
  exact hh

/-- area 0's bytes grow -/
theorem Dk.grow0 {w w' : World} {S : Nat → Prop} {g : Nat} {d : DS} {v : Value} {a0 a1 : Option Addr} {n0 c0 n1 c1 : Nat} (bs : List Nat)
    (hh : w.heap[g]? = some (.cells #[.int .i64 (d.room : Nat), .slice a0 n0 c0, .int .i64 (d.s0 : Nat), .slice a1 n1 c1, .int .i64 (d.s1 : Nat), .bool d.lost, .bool d.left.isSome, .int .i64 (d.left.getD 0 : Nat)] 50 (0, 0)))
    (_h1 : Own w 0 (.slice a0 n0 c0) d.b0) (h2 : Own w 0 (.slice a1 n1 c1) d.b1) (h3 : S g)
    (h4 : ∀ k, (Value.slice a0 n0 c0).ownBlock = some k → S k ∧ k ≠ g) (h5 : ∀ k, (Value.slice a1 n1 c1).ownBlock = some k → S k ∧ k ≠ g)
    (h6 : ∀ k, (Value.slice a0 n0 c0).ownBlock = some k → (Value.slice a1 n1 c1).ownBlock ≠ some k) (hS : ∀ k, w.heap.size ≤ k → S k)
    (hv : Own w' 0 v (d.b0 ++ bs)) (hg : w.grownBy w' (Value.slice a0 n0 c0).ownBlock) (hw : v.ownBlock = (Value.slice a0 n0 c0).ownBlock ∨ v.ownBlock = some w.heap.size) (hok : { d with b0 := d.b0 ++ bs }.ok) :
    Dk (w'.setCell ⟨g, 1, none⟩ v) S g { d with b0 := d.b0 ++ bs } ∧ Frm S w (w'.setCell ⟨g, 1, none⟩ v) := by
  have hlt := (Array.getElem?_eq_some_iff.1 hh).1
  have hh' := grown_kept hg hh (fun k hk => (h4 k hk).2)
  have hvS : ∀ j, v.ownBlock = some j → S j ∧ j ≠ g := by
    intro j hj
    rcases hw with h | h
    · rw [h] at hj; exact h4 j hj
    · rw [h] at hj
      simp only [Option.some.injEq] at hj
      exact ⟨hS j (by omega), by omega⟩
  have hvo : ∀ j, v.ownBlock = some j → (Value.slice a1 n1 c1).ownBlock ≠ some j := by
    intro j hj hc
    rcases hw with h | h
    · rw [h] at hj
      exact h6 j hj hc
    · rw [h] at hj
      simp only [Option.some.injEq] at hj
      have := (World.ownsRow.lt h2.1 j hc).2
      omega
  have k1 : Own w' 0 (.slice a1 n1 c1) d.b1 := by
    refine ⟨World.ownsRow.kept h2.1 hg ?_, h2.2⟩
    cases e : (Value.slice a1 n1 c1).ownBlock with
    | none => exact .inl rfl
    | some j =>
      right
      intro hc
      exact h6 j hc.symm e
  have hf2 : Frm S w w' := Frm.of_grown hg S (fun j hj => (h4 j hj).1)
  obtain ⟨a2, n2, c2, rfl, _⟩ := hv.slice
  refine ⟨Dk.mk' (heap_setCell_same w' g 1 _ 50 _ hh') (Frm.one _ _ _ _) hv k1 h3 hvS h5 hvo hok, hf2.trans (Frm.set _ _ _ _ _ h3)⟩

/-- area 1's bytes grow -/
theorem Dk.grow1 {w w' : World} {S : Nat → Prop} {g : Nat} {d : DS} {v : Value} {a0 a1 : Option Addr} {n0 c0 n1 c1 : Nat} (bs : List Nat)
    (hh : w.heap[g]? = some (.cells #[.int .i64 (d.room : Nat), .slice a0 n0 c0, .int .i64 (d.s0 : Nat), .slice a1 n1 c1, .int .i64 (d.s1 : Nat), .bool d.lost, .bool d.left.isSome, .int .i64 (d.left.getD 0 : Nat)] 50 (0, 0)))
    (h1 : Own w 0 (.slice a0 n0 c0) d.b0) (_h2 : Own w 0 (.slice a1 n1 c1) d.b1) (h3 : S g)
    (h4 : ∀ k, (Value.slice a0 n0 c0).ownBlock = some k → S k ∧ k ≠ g) (h5 : ∀ k, (Value.slice a1 n1 c1).ownBlock = some k → S k ∧ k ≠ g)
    (h6 : ∀ k, (Value.slice a0 n0 c0).ownBlock = some k → (Value.slice a1 n1 c1).ownBlock ≠ some k) (hS : ∀ k, w.heap.size ≤ k → S k)
    (hv : Own w' 0 v (d.b1 ++ bs)) (hg : w.grownBy w' (Value.slice a1 n1 c1).ownBlock) (hw : v.ownBlock = (Value.slice a1 n1 c1).ownBlock ∨ v.ownBlock = some w.heap.size) (hok : { d with b1 := d.b1 ++ bs }.ok) :
    Dk (w'.setCell ⟨g, 3, none⟩ v) S g { d with b1 := d.b1 ++ bs } ∧ Frm S w (w'.setCell ⟨g, 3, none⟩ v) := by
  have hlt := (Array.getElem?_eq_some_iff.1 hh).1
  have hh' := grown_kept hg hh (fun k hk => (h5 k hk).2)
  have hvS : ∀ j, v.ownBlock = some j → S j ∧ j ≠ g := by
    intro j hj
    rcases hw with h | h
    · rw [h] at hj; exact h5 j hj
    · rw [h] at hj
      simp only [Option.some.injEq] at hj
      exact ⟨hS j (by omega), by omega⟩
  have hvo : ∀ j, v.ownBlock = some j → (Value.slice a0 n0 c0).ownBlock ≠ some j := by
    intro j hj hc
    rcases hw with h | h
    · rw [h] at hj
      exact h6 j hc hj
    · rw [h] at hj
      simp only [Option.some.injEq] at hj
      have := (World.ownsRow.lt h1.1 j hc).2
      omega
  have k1 : Own w' 0 (.slice a0 n0 c0) d.b0 := by
    refine ⟨World.ownsRow.kept h1.1 hg ?_, h1.2⟩
    cases e : (Value.slice a0 n0 c0).ownBlock with
    | none => exact .inl rfl
    | some j =>
      right
      intro hc
      exact h6 j e hc.symm
  have hf2 : Frm S w w' := Frm.of_grown hg S (fun j hj => (h5 j hj).1)
  obtain ⟨a2, n2, c2, rfl, _⟩ := hv.slice
  refine ⟨Dk.mk' (heap_setCell_same w' g 3 _ 50 _ hh') (Frm.one _ _ _ _) k1 hv h3 h4 hvS (fun j hj hc => hvo j hc hj) hok, hf2.trans (Frm.set _ _ _ _ _ h3)⟩

theorem dappend_any (g : Nat) (S : Nat → Prop) (d : DS) (k : Int) (ao : Option Addr) (m c : Nat) (ns : List Nat) (w : World) (h : Dk w S g d) (hS : ∀ k, w.heap.size ≤ k → S k) (hr : Row w ao m ns) (hz : ao = none → c = 0) :
    Calls Tryd.prog 7 #[.pointer (some ⟨g, 0, none⟩), .int .i64 k, .slice ao m c] w fun e w' => e = .returned (.int .i64 ((d.append k ns).1 : Nat)) ∧ Dk w' S g (d.append k ns).2 ∧ Frm S w w' := by
  have hc := check_any g k w
  have hok := DS.append_ok h.good k ns hr.2.1
  have hroom := droom_any g S d w h
  have hm := hr.1
  have hml := hr.2.2.1
  unfold DS.append at hok ⊢
  by_cases hk : k = 0 ∨ k = 1
  · rw [if_pos hk] at hc
    rw [if_neg (fun h => h hk)] at hok ⊢
    by_cases hfull : d.free < ns.length
    · rw [if_pos hfull]
      have hf : (d.free : Int) < (m : Int) := by omega
      clear hok hfull
      go_enter Tryd.func7, Tryd.ntmps7
      go_wp2_with fail
      refine hc.mono ?_
      rintro e w' ⟨rfl, hw⟩
      subst w'
      go_wp2_with fail
      refine hroom.mono ?_
      rintro e w' ⟨rfl, kk, rfl⟩
      have hD := h.drews (k := kk)
      have hbk : Frm S w (w.drewN kk) := Frm.drews S w kk
      generalize w.drewN kk = W at *
      go_wp2
      go_ret
      exact ⟨rfl, hD, hbk⟩
    · rw [if_neg hfull] at hok ⊢
      have hf : (m : Int) ≤ (d.free : Int) := by omega
      have hfl : d.free ≤ 1048576 := by have := h.good.room; unfold DS.free; omega
      cases hlost : d.lost with
      | true =>
        have hwr : d.write = (12, d) := by unfold DS.write; rw [if_pos hlost]
        rw [if_pos rfl]
        clear hok hfull
        go_enter Tryd.func7, Tryd.ntmps7
        go_wp2_with fail
        refine hc.mono ?_
        rintro e w' ⟨rfl, hw⟩
        subst w'
        go_wp2_with fail
        refine hroom.mono ?_
        rintro e w' ⟨rfl, kk, rfl⟩
        have hD := h.drews (k := kk)
        have hbk : Frm S w (w.drewN kk) := Frm.drews S w kk
        have hg3 : S g := by obtain ⟨_, _, _, _, _, _, _, _, _, h3, _⟩ := h; exact h3
        clear hroom hc hr h hS
        generalize w.drewN kk = W at *
        have hW := dwrite_any g S d W hD
        rw [hwr] at hW
        have e5 : W.cell? ⟨g, 5, none⟩ = some (.bool true) := by
          obtain ⟨_, _, _, _, _, _, hh, _⟩ := hD
          rw [← hlost]
          exact cell_of_heap hh rfl
        go_wp2_with fail
        refine hW.mono ?_
        rintro e w1 ⟨rfl, hD1, hf1⟩
        go_wp2
        go_ret
        exact ⟨rfl, hD1, hbk.trans (hf1.mono fun j _ hj => by rw [hj]; exact hg3)⟩
      | false =>
        rw [if_neg (by simp [hlost])] at hok
        rw [if_neg (by simp)]
        have hws := DS.write_same d
        have hlen0 := h.good.sum
        have hr0 := h.good.room
        have hgs := DS.get_write d k
        rw [← hgs.1, ← hgs.2.1] at hok ⊢
        rw [← hws.2.1, ← hws.2.2.1, ← hws.1] at hlen0
        rw [← hws.1] at hr0
        have hWA : ∀ W, Dk W S g d → _ := fun W hD => dwrite_any g S d W hD
        clear hws hgs
        generalize d.write.2 = D at *
        generalize d.write.1 = R at *
        go_enter Tryd.func7, Tryd.ntmps7
        go_wp2_with fail
        refine hc.mono ?_
        rintro e w' ⟨rfl, hw⟩
        subst w'
        go_wp2_with fail
        refine hroom.mono ?_
        rintro e w' ⟨rfl, kk, rfl⟩
        have hD := h.drews (k := kk)
        have hr' : Row (w.drewN kk) ao m ns := hr
        have hS' : ∀ k, (w.drewN kk).heap.size ≤ k → S k := hS
        have hbk : Frm S w (w.drewN kk) := Frm.drews S w kk
        have hg3 : S g := by obtain ⟨_, _, _, _, _, _, _, _, _, h3, _⟩ := h; exact h3
        clear hroom hc hr h hS
        generalize w.drewN kk = W at *
        have hW := hWA W hD
        clear hWA
        have e5 : W.cell? ⟨g, 5, none⟩ = some (.bool false) := by
          obtain ⟨_, _, _, _, _, _, hh, _⟩ := hD
          rw [← hlost]
          exact cell_of_heap hh rfl
        go_wp2_with fail
        refine hW.mono ?_
        rintro e w1 ⟨rfl, hD1, hf1⟩
        have r1 := hr'.fr hf1 (hr'.not_disk hD)
        have hS1 : ∀ k, w1.heap.size ≤ k → S k := fun k hk => hS' k (Nat.le_trans hf1.size hk)
        have hb1 : Frm S w w1 := hbk.trans (hf1.mono fun j _ hj => by rw [hj]; exact hg3)
        clear hW hD hr' hf1 hbk hlost
        obtain ⟨a0, n0, c0, a1, n1, c1, hh, h1, h2, h3, h4, h5, h6, h7⟩ := hD1
        rcases hk with rfl | rfl
        · have e1 : w1.cell? ⟨g, 1, none⟩ = some (.slice a0 n0 c0) := cell_of_heap hh rfl
          have hbd : D.b0.length + m ≤ 140737488355328 := by omega
          have hkk : ∀ {w2 : World}, w1.grownBy w2 (Value.slice a0 n0 c0).ownBlock → w2.cell? ⟨g, 1, none⟩ = some (.slice a0 n0 c0) ∧ w2.frozen? ⟨g, 1, none⟩ = false := fun hg =>
            have q := grown_kept hg hh (fun k hk => (h4 k hk).2)
            ⟨cell_of_heap q rfl, frozen_heap q⟩
          have HH : Hid (_ = _) := hh
          clear hh hlen0 hr0 hml hfull
          go_wp2_with (at_builtin; refine wp_append_rowG rfl _ _ rfl 0 _ _ rfl h1 _ _ _ _ rfl r1 hz hbd (Nat.zero_le _) ?_; intro v2 w2 hv2 hg2 hw2; obtain ⟨a2, n2, c2, e2, _⟩ := hv2.slice; subst e2; have q1 := (hkk hg2).1; have q2 := (hkk hg2).2)
          go_ret
          obtain ⟨t1, t2⟩ := Dk.grow0 ns HH.out h1 h2 h3 h4 h5 h6 hS1 hv2 hg2 hw2 hok
          exact ⟨rfl, t1, hb1.trans t2⟩
        · have e1 : w1.cell? ⟨g, 3, none⟩ = some (.slice a1 n1 c1) := cell_of_heap hh rfl
          have hbd : D.b1.length + m ≤ 140737488355328 := by omega
          have hkk : ∀ {w2 : World}, w1.grownBy w2 (Value.slice a1 n1 c1).ownBlock → w2.cell? ⟨g, 3, none⟩ = some (.slice a1 n1 c1) ∧ w2.frozen? ⟨g, 3, none⟩ = false := fun hg =>
            have q := grown_kept hg hh (fun k hk => (h5 k hk).2)
            ⟨cell_of_heap q rfl, frozen_heap q⟩
          have HH : Hid (_ = _) := hh
          clear hh hlen0 hr0 hml hfull
          go_wp2_with (at_builtin; refine wp_append_rowG rfl _ _ rfl 0 _ _ rfl h2 _ _ _ _ rfl r1 hz hbd (Nat.zero_le _) ?_; intro v2 w2 hv2 hg2 hw2; obtain ⟨a2, n2, c2, e2, _⟩ := hv2.slice; subst e2; have q1 := (hkk hg2).1; have q2 := (hkk hg2).2)
          go_ret
          obtain ⟨t1, t2⟩ := Dk.grow1 ns HH.out h1 h2 h3 h4 h5 h6 hS1 hv2 hg2 hw2 hok
          exact ⟨rfl, t1, hb1.trans t2⟩
  · rw [if_neg hk] at hc
    rw [if_pos hk]
    go_enter Tryd.func7, Tryd.ntmps7
    go_wp2_with fail
    refine hc.mono ?_
    rintro e w' ⟨rfl, hw⟩
    subst w'
    go_wp2
    go_ret
    exact ⟨rfl, h, Frm.refl _ _⟩
theorem dappend_nil (k : Int) (b : Value) (w : World) : Calls Tryd.prog 7 #[.pointer none, .int .i64 k, b] w fun e w' => e = .returned (.int .i64 2) ∧ w' = w := by
  go_enter Tryd.func7, Tryd.ntmps7
  go_wp2_with fail
  refine (check_nil k w).mono ?_
  rintro e w' ⟨rfl, hw⟩
  subst w'
  go_wp2
  go_ret
  exact ⟨rfl, rfl⟩
end Go.Proofs.YtmlpneiadkngaaaDoor
