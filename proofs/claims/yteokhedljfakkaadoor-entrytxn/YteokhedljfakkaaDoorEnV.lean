/- A transaction's keys, its shards. -/
import Derived.Test.YteokhedljfakkaaDoorEnU
namespace Go.Proofs.YteokhedljfakkaaDoor
open Go Go.RowKit
set_option linter.unusedVariables false
set_option linter.unusedSimpArgs false

/-- the keys of the reads, then of the writes -/
def tkeys (l1 : List Rdv) (l2 : List Wrv) : List ByteArray := l1.map Rdv.key ++ l2.map Wrv.key
theorem tkeys_vals (l1 : List Rdv) (l2 : List Wrv) : (tkeys l1 l2).map Value.string = keysR l1 ++ keysW l2 := by simp [tkeys, keysR, keysW, Function.comp_def]
theorem keysR_one (l : List Rdv) : ∀ u ∈ keysR l, u.oneCell' = true := by intro u hu; simp only [keysR, List.mem_map] at hu; obtain ⟨r, _, rfl⟩ := hu; rfl
theorem keysW_one (l : List Wrv) : ∀ u ∈ keysW l, u.oneCell' = true := by intro u hu; simp only [keysW, List.mem_map] at hu; obtain ⟨r, _, rfl⟩ := hu; rfl
theorem step_append_keys {w : World} {ops : Array Oper} {o : Oper} {a : Act} {K : Act → World → Prop} {Q : Exit → Act → World → Prop} {E : Prop} (hgd : o.guard = none) (s x : Operand)
    (ho : o.op = .call { callee := .builtin .append, args := #[s, x], argTypes := #[61, 61] })
    (base : Nat) (v : Value) (xs : List Value) (hs : a.eval s = v) (hown : OwnV w base 9 v xs)
    (b2 : Nat) (v2 : Value) (ys : List Value) (hx : a.eval x = v2) (hy : OwnV w b2 9 v2 ys) (h1 : ∀ u ∈ ys, u.oneCell' = true)
    (hlen : xs.length + ys.length ≤ 100000) (hbase : base ≤ w.heap.size)
    (h : ∀ v' w', OwnV w' base 9 v' (xs ++ ys) → Below base w w' → K (a.put o.dst v') w') :
    if Region.wanted o (yielded ops a.tmps) = true then Oper.wp Tryd.prog o a w K Q else E := by
  have hw : Region.wanted o (yielded ops a.tmps) = true := by simp [Region.wanted, hgd]
  rw [if_pos hw]
  obtain ⟨i0, hi, hz0, hz1, hz2⟩ := info_parts Try.info_9
  obtain ⟨a2, c2, rfl, _, _, hz, hc⟩ := hy.shape
  cases a2 with
  | none =>
    obtain ⟨rfl, rfl⟩ := hz rfl
    have hrun := run_append_owned_none (P := Tryd.prog) (w := w) base 61 o.type 9 i0 1 Tryd.underlying61 hi v _ _ hown
    unfold Oper.wp
    simp [execOp, ho, resolve, invoke, builtin, hs, hx, hrun, Result.andThen]
    exact h v w (by simpa using hown) (Below.refl _ _)
  | some ad =>
    obtain ⟨g, rfl, hg1, hg2, hcc⟩ := hc ad rfl
    refine wp_append_own w s x 61 ho base 9 i0 (.string ⟨#[]⟩) 1 16 Tryd.underlying61 hi hz0 hz1 hz2 rfl (by decide) v _ _ hs hown ⟨g, 0, none⟩ ys.length c2 ys hx (by simp) ?_ h1 (by unfold maxLen; omega) (by omega) hbase ?_
    · intro j u hj
      have := hcc j u hj
      by_cases hj0 : j = 0
      · subst hj0; simpa [Addr.add] using this
      · simpa [Addr.add, hj0] using this
    · intro v' w' q1 q2 _
      refine h v' w' ?_ ((Below.refl _ _).grown q2 hbase (OwnV.block hown))
      show w'.ownsRow base 9 1 v' (xs ++ ys).length (xs ++ ys)
      rw [List.length_append]
      exact q1
theorem strs_of_own {w : World} {base : Nat} {v : Value} {ks : List ByteArray} (h : OwnV w base 9 v (ks.map Value.string)) (hk : ∀ x ∈ ks, x.size ≤ maxLen) (hl : ks.length ≤ 1000) : ∃ a c, v = .slice a ks.length c ∧ Strs w a ks.length ks := by
  obtain ⟨a, c, rfl, _, _, hz, hc⟩ := h.shape
  rw [List.length_map]
  refine ⟨a, c, rfl, rfl, hk, by unfold maxLen; omega, ?_⟩
  cases a with
  | none => exact .inl (by have := (hz rfl).1; simpa using this)
  | some ad =>
    obtain ⟨g, rfl, _, _, hcc⟩ := hc ad rfl
    refine .inr ⟨g, 0, rfl, fun j x hx => ?_⟩
    have := hcc j (.string x) (by simp [hx])
    simpa using this
theorem OwnV.mono {w : World} {b b2 : Nat} {e : TypeId} {v : Value} {xs : List Value} (h : OwnV w b e v xs) (hb : b2 ≤ b) : OwnV w b2 e v xs := owns_mono h hb
theorem tkeys_fine {l1 : List Rdv} {l2 : List Wrv} (h : Fine l1 l2) : ∀ x ∈ tkeys l1 l2, x.size ≤ maxLen := by
  intro x hx
  simp only [tkeys, List.mem_append, List.mem_map] at hx
  rcases hx with ⟨r, hr, rfl⟩ | ⟨r, hr, rfl⟩
  · exact h.r r hr
  · exact h.k r hr
set_option maxRecDepth 100000 in
set_option maxHeartbeats 4000000 in
theorem ekeys_any (id : Id) (plain : Bool) (b1 : Nat) (a1 : Option Addr) (n1 c1 : Nat) (a2 : Option Addr) (n2 c2 : Nat) (l1 : List Rdv) (l2 : List Wrv) (w : World) (h : Tx w b1 a1 n1 c1 a2 n2 c2 l1 l2) :
    Calls Tryd.prog 28 #[txnv id plain (.slice a1 n1 c1) (.slice a2 n2 c2)] w fun e w' => (∃ u, e = .returned u ∧ OwnV w' w.heap.size 9 u ((tkeys l1 l2).map Value.string)) ∧ Below w.heap.size w w' := by
  obtain ⟨i1, i2⟩ := id
  rw [tkeys_vals]
  have hb0 : Below w.heap.size w (w.alloc (.cells #[.int .i64 i1, .int .u64 i2, .bool plain, .slice a1 n1 c1, .slice a2 n2 c2] 35)) := (Below.refl _ _).alloc (Nat.le_refl _) _
  have hn0 := heap_alloc_new w (.cells #[.int .i64 i1, .int .u64 i2, .bool plain, .slice a1 n1 c1, .slice a2 n2 c2] 35)
  have hh1 := h.h1
  have hh2 := h.h2
  go_enter Tryd.func28, Tryd.ntmps28
  go_upto_region 1 with fail
  generalize w.alloc (.cells #[.int .i64 i1, .int .u64 i2, .bool plain, .slice a1 n1 c1, .slice a2 n2 c2] 35) = w0 at *
  have HT : Hid (Tx w0 b1 a1 n1 c1 a2 n2 c2 l1 l2) := h.later hb0
  have HB0 : Hid (Below w.heap.size w w0) := hb0
  have x3 : w0.cell? ⟨w.heap.size, 3, none⟩ = some (.slice a1 n1 c1) := cell_of_heap hn0 rfl
  have x4 : w0.cell? ⟨w.heap.size, 4, none⟩ = some (.slice a2 n2 c2) := cell_of_heap hn0 rfl
  have HS : Hid (∀ w', Below w0.heap.size w0 w' → w'.cell? ⟨w.heap.size, 3, none⟩ = some (.slice a1 n1 c1) ∧ w'.cell? ⟨w.heap.size, 4, none⟩ = some (.slice a2 n2 c2)) := fun w' hb => ⟨cell_later hb x3, cell_later hb x4⟩
  have hk1 : (keysR l1).length ≤ 1000 := by simp [keysR]; omega
  have hk2 : (keysW l2).length ≤ 1000 := by simp [keysW]; omega
  clear hb0 hn0 x3 x4 h
  have hu0 : Below w0.heap.size w0 w0.drew := (Below.refl _ _).drew
  refine wp_region_held_drew (S := (fun w' => w'.cell? ⟨w.heap.size, 3, none⟩ = some (.slice a1 n1 c1) ∧ w'.cell? ⟨w.heap.size, 4, none⟩ = some (.slice a2 n2 c2))) (by kernel_rfl) ?_ (fun hHeld => ?_)
  · exact HS.out _ hu0
  refine held_take (i := 0) (d := 3) (v := ?_) rfl rfl (by kernel_rfl) (by kernel_rfl) (by kernel_rfl) (fun _ _ _ h => h) (Or.inl ⟨by rfl, ?_⟩) hHeld ?_
  rotate_left
  · (intro w hSw; (try dsimp only at hSw); go_simp; all_goals (with_reducible rfl))
  try simp only [Act.put, List.setIfInBounds_toArray, List.set_cons_zero, List.set_cons_succ]
  refine held_take (i := 1) (d := 4) (v := ?_) rfl rfl (by kernel_rfl) (by kernel_rfl) (by kernel_rfl) (fun _ _ _ h => h) (Or.inl ⟨by rfl, ?_⟩) hHeld ?_
  rotate_left
  · (intro w hSw; (try dsimp only at hSw); go_simp; all_goals (with_reducible rfl))
  try simp only [Act.put, List.setIfInBounds_toArray, List.set_cons_zero, List.set_cons_succ]
  refine held_take (i := 3) (d := 6) (v := ?_) rfl rfl (by kernel_rfl) (by kernel_rfl) (by kernel_rfl) (fun _ _ _ h => h) (Or.inl ⟨by rfl, ?_⟩) hHeld ?_
  rotate_left
  · (intro w hSw; (try dsimp only at hSw); go_simp; all_goals (with_reducible rfl))
  try simp only [Act.put, List.setIfInBounds_toArray, List.set_cons_zero, List.set_cons_succ]
  refine held_take (i := 4) (d := 7) (v := ?_) rfl rfl (by kernel_rfl) (by kernel_rfl) (by kernel_rfl) (fun _ _ _ h => h) (Or.inl ⟨by rfl, ?_⟩) hHeld ?_
  rotate_left
  · (intro w hSw; (try dsimp only at hSw); go_simp; all_goals (with_reducible rfl))
  try simp only [Act.put, List.setIfInBounds_toArray, List.set_cons_zero, List.set_cons_succ]
  refine wpAnyH_ready (rs := [2]) (by kernel_rfl) (by simp) ?_
  refine AllReadyH.cons rfl (fun K hK => ?_) AllReadyH.nil
  go_simp
  have hq := readKeys_any b1 _ l1 w0.drew (HT.out.later hu0).r hh1
  refine hq.mono ?_
  clear hq
  rintro e u1 ⟨⟨v1, rfl, ho1⟩, hx⟩
  have hu1 : Below w0.heap.size w0 u1 := hu0.trans hx
  have HO1 : Hid (OwnV u1 w0.heap.size 9 v1 (keysR l1)) := ho1
  clear ho1 hx
  go_wp2_with fail
  refine hK.out _ _ ?_ (fun hHeld => ?_)
  · exact HS.out _ hu1
  clear hK K
  try simp only [Act.put, List.setIfInBounds_toArray, List.set_cons_zero, List.set_cons_succ]
  refine wpAnyH_ready (rs := [5]) (by kernel_rfl) (by simp) ?_
  refine AllReadyH.cons rfl (fun K hK => ?_) AllReadyH.nil
  go_simp
  have hq := writeKeys_any b1 _ l2 u1 (HT.out.later hu1).w hh2
  refine hq.mono ?_
  clear hq
  rintro e u2 ⟨⟨v2, rfl, ho2⟩, hx⟩
  have HO2 : Hid (OwnV u2 w0.heap.size 9 v1 (keysR l1)) := HO1.out.later hx
  have hu2 : Below w0.heap.size w0 u2 := hu1.trans (hx.mono hu1.size)
  have HO3 : Hid (OwnV u2 u1.heap.size 9 v2 (keysW l2)) := ho2
  clear ho2 hx HO1
  go_wp2_with fail
  refine hK.out _ _ ?_ (fun hHeld => ?_)
  · exact HS.out _ hu2
  clear hK K
  try simp only [Act.put, List.setIfInBounds_toArray, List.set_cons_zero, List.set_cons_succ]
  refine wpAnyH_ready (rs := [6]) (by kernel_rfl) (by simp) ?_
  refine AllReadyH.cons rfl (fun K hK => ?_) AllReadyH.nil
  refine step_append_keys (by rfl) _ _ (by rfl) w0.heap.size _ _ (by rfl) HO2.out u1.heap.size _ _ (by rfl) HO3.out (keysW_one l2) (by omega) hu2.size ?_
  intro v3 u3 ho4 hx
  show K (Act.put _ (some 9) v3) u3
  have hu3 : Below w0.heap.size w0 u3 := hu2.trans hx
  have HO4 : Hid (OwnV u3 w0.heap.size 9 v3 (keysR l1 ++ keysW l2)) := ho4
  clear ho4 hx
  refine hK.out _ _ ?_ (fun hHeld => ?_)
  · exact HS.out _ hu3
  clear hK K
  try simp only [Act.put, List.setIfInBounds_toArray, List.set_cons_zero, List.set_cons_succ]
  refine held_take (i := 7) (d := 2) (v := ?_) rfl rfl (by kernel_rfl) (by kernel_rfl) (by kernel_rfl) (fun _ _ _ h => h) (Or.inl ⟨by rfl, ?_⟩) hHeld ?_
  rotate_left
  · (intro w hSw; (try dsimp only at hSw); go_simp; all_goals (with_reducible rfl))
  try simp only [Act.put, List.setIfInBounds_toArray, List.set_cons_zero, List.set_cons_succ]
  refine wpAnyH_done (by kernel_rfl) ?_ _
  clear hHeld
  go_wp2
  go_ret
  exact ⟨⟨_, rfl, HO4.out.mono HB0.out.size⟩, HB0.out.trans (hu3.mono HB0.out.size)⟩
set_option maxRecDepth 100000 in
theorem eshards_any (id : Id) (plain : Bool) (b1 : Nat) (a1 : Option Addr) (n1 c1 : Nat) (a2 : Option Addr) (n2 c2 : Nat) (l1 : List Rdv) (l2 : List Wrv) (n : Int) (w : World) (h : Tx w b1 a1 n1 c1 a2 n2 c2 l1 l2) (hl1 : l1.length ≤ 10) (hl2 : l2.length ≤ 10) :
    Calls Tryd.prog 23 #[txnv id plain (.slice a1 n1 c1) (.slice a2 n2 c2), .int .i64 n] w fun e w' => (∃ u, e = .returned u ∧ OwnV w' w.heap.size 3 u (sel (inn (tkeys l1 l2) n) 4)) ∧ Below w.heap.size w w' := by
  obtain ⟨i1, i2⟩ := id
  have hb0 : Below w.heap.size w (w.alloc (.cells #[.int .i64 i1, .int .u64 i2, .bool plain, .slice a1 n1 c1, .slice a2 n2 c2] 35)) := (Below.refl _ _).alloc (Nat.le_refl _) _
  have hf := tkeys_fine h.f
  have hl : (tkeys l1 l2).length ≤ 1000 := by simp [tkeys]; omega
  have hcall := ekeys_any (i1, i2) plain b1 a1 n1 c1 a2 n2 c2 l1 l2 (w.alloc (.cells #[.int .i64 i1, .int .u64 i2, .bool plain, .slice a1 n1 c1, .slice a2 n2 c2] 35)) (h.later hb0)
  clear h
  generalize tkeys l1 l2 = ks at *
  clear hl1 hl2
  go_enter Tryd.func23, Tryd.ntmps23
  go_wp2_with fail
  generalize w.alloc (.cells #[.int .i64 i1, .int .u64 i2, .bool plain, .slice a1 n1 c1, .slice a2 n2 c2] 35) = w0 at *
  refine hcall.mono ?_
  clear hcall
  rintro e w1 ⟨⟨v1, rfl, ho1⟩, hb1⟩
  obtain ⟨a, c, rfl, hs⟩ := strs_of_own ho1 hf hl
  have HB1 : Hid (Below w.heap.size w w1) := hb0.trans (hb1.mono hb0.size)
  have hcall := kshards_any a ks.length c ks n w1 hs
  clear ho1 hb0 hb1 hs
  go_wp2_with fail
  refine hcall.mono ?_
  clear hcall
  rintro e w2 ⟨v2, rfl, ho2, hb2⟩
  have HF : Hid (OwnV w2 w.heap.size 3 v2 (sel (inn ks n) 4) ∧ Below w.heap.size w w2) := ⟨ho2.mono HB1.out.size, HB1.out.trans (hb2.mono HB1.out.size)⟩
  clear ho2 hb2
  go_wp2
  go_ret
  exact ⟨⟨_, rfl, HF.out.1⟩, HF.out.2⟩
set_option maxRecDepth 100000 in
set_option maxHeartbeats 4000000 in
theorem rkeys_any (id : Id) (plain : Bool) (b1 : Nat) (a1 : Option Addr) (c1 : Nat) (a2 : Option Addr) (c2 : Nat) (l1 : List Rdv) (l2 : List Wrv) (w : World) (h : Tr w b1 a1 c1 a2 c2 l1 l2) :
    Calls Tryd.prog 25 #[txnv id plain (.slice a1 l1.length c1) (.slice a2 l2.length c2)] w fun e w' => (∃ u, e = .returned u ∧ OwnV w' w.heap.size 9 u ((tkeys l1 l2).map Value.string)) ∧ Below w.heap.size w w' := by
  obtain ⟨i1, i2⟩ := id
  rw [tkeys_vals]
  obtain ⟨aa, cc, e1, hR⟩ := owns_rds h.r ⟨⟨#[]⟩, 0⟩
  simp only [Value.slice.injEq, true_and] at e1
  obtain ⟨rfl, rfl⟩ := e1
  obtain ⟨aa, cc, e1, hW⟩ := owns_wrs h.w ⟨⟨#[]⟩, ⟨#[]⟩, false⟩
  simp only [Value.slice.injEq, true_and] at e1
  obtain ⟨rfl, rfl⟩ := e1
  have hl1 := h.h1
  have hl2 := h.h2
  clear h
  have hb0 : Below w.heap.size w (w.alloc (.cells #[.int .i64 i1, .int .u64 i2, .bool plain, .slice a1 l1.length c1, .slice a2 l2.length c2] 28)) := (Below.refl _ _).alloc (Nat.le_refl _) _
  have hn0 := heap_alloc_new w (.cells #[.int .i64 i1, .int .u64 i2, .bool plain, .slice a1 l1.length c1, .slice a2 l2.length c2] 28)
  go_enter Tryd.func25, Tryd.ntmps25
  go_upto_region 1 with fail
  generalize w.alloc (.cells #[.int .i64 i1, .int .u64 i2, .bool plain, .slice a1 l1.length c1, .slice a2 l2.length c2] 28) = w0 at *
  have HR0 : Hid (Rds w0 a1 l1.length (fun i => l1[i]?.getD ⟨⟨#[]⟩, 0⟩)) := hR.later hb0
  have HW0 : Hid (Wrs w0 a2 l2.length (fun i => l2[i]?.getD ⟨⟨#[]⟩, ⟨#[]⟩, false⟩)) := hW.later hb0
  have HB0 : Hid (Below w.heap.size w w0) := hb0
  have HN0 : Hid (w0.heap[w.heap.size]? = some (.cells #[.int .i64 i1, .int .u64 i2, .bool plain, .slice a1 l1.length c1, .slice a2 l2.length c2] 28)) := hn0
  have x3 : w0.cell? ⟨w.heap.size, 3, none⟩ = some (.slice a1 l1.length c1) := cell_of_heap hn0 rfl
  clear hb0 hR hW hn0
  go_wp2
  clear x3
  go_loopw [3, 11] (fun v t wr => ∃ k : Nat, t = .int .i64 (k : Nat) ∧ k ≤ l1.length ∧ Hid (OwnV wr w0.heap.size 9 v (keysR (l1.take k))) ∧ Hid (Below w0.heap.size w0 wr)) (fun _ t _ => l1.length - (intOf t).toNat)
  case atStart => exact ⟨0, rfl, by omega, OwnV.nil _ _ _, Below.refl _ _⟩
  case round =>
    obtain ⟨k, rfl, hk, HO, HB⟩ := hrel
    by_cases hlt : k < l1.length
    · obtain ⟨b, off, rfl, hc⟩ := (HR0.out.later HB.out).at (by omega)
      obtain ⟨d0, d1⟩ := hc k hlt
      clear hc
      have hx : l1[k]? = some (l1[k]?.getD ⟨⟨#[]⟩, 0⟩) := by rw [List.getElem?_eq_getElem hlt]; rfl
      generalize l1[k]?.getD ⟨⟨#[]⟩, 0⟩ = x at d0 d1 hx
      have HEQ : Hid (keysR (l1.take (k + 1)) = keysR (l1.take k) ++ [.string x.key]) := by
        have := take_map (fun r => Value.string (r : Rdv).key) hx
        exact this
      obtain ⟨xk, xn⟩ := x
      simp only at d0 d1 HEQ
      have hll : (keysR (l1.take k)).length ≤ 2000 := by simp [keysR, keysW]; omega
      have hcc : ((wr.alloc (.cells #[.string xk, .int .u64 xn] 66)).alloc (.cells #[.string xk] 9)).cell? ⟨wr.heap.size + 1, 0, none⟩ = some (.string xk) := by
        have := heap_alloc_new (wr.alloc (.cells #[.string xk, .int .u64 xn] 66)) (.cells #[.string xk] 9)
        rw [World.size_alloc] at this
        exact cell_of_heap this rfl
      have HB3 : Hid (Below w0.heap.size w0 ((wr.alloc (.cells #[.string xk, .int .u64 xn] 66)).alloc (.cells #[.string xk] 9))) := (HB.out.alloc HB.out.size _).alloc (by have := HB.out.size; simp; omega) _
      clear hx
      generalize keysR (l1.take k) = LL at *
      go_wp2_with (at_builtin; refine wp_append_one 61 9 _ 16 Tryd.underlying61 Try.info_9 rfl rfl _ _ rfl w0.heap.size _ _ rfl ((HO.out.alloc _).alloc _) _ _ (.string xk) rfl hcc rfl (by omega) (by omega) HB3.out.size ?_; intro v2 w2 ho2 hb2)
      go_roundw
      case rel => exact ⟨k + 1, by go_num, by omega, by rw [HEQ.out]; exact ho2, HB3.out.trans hb2⟩
      case measure => simp [intOf]; omega
    · have hkk : l1.take k = l1 := List.take_of_length_le (by omega)
      rw [hkk] at HO
      have x4 : wr.cell? ⟨w.heap.size, 4, none⟩ = some (.slice a2 l2.length c2) := cell_of_heap (keepc HB.out HN0.out) rfl
      have HO1 := HO
      have HB1 : Hid (Below w0.heap.size w0 wr) := HB
      clear hkk HO HB
      go_wp2
      clear x4
      generalize wr = wA at *
      go_loopw [3, 24] (fun v t wr => ∃ k : Nat, t = .int .i64 (k : Nat) ∧ k ≤ l2.length ∧ Hid (OwnV wr w0.heap.size 9 v (keysR l1 ++ keysW (l2.take k))) ∧ Hid (Below w0.heap.size w0 wr)) (fun _ t _ => l2.length - (intOf t).toNat)
      case atStart => exact ⟨0, rfl, by omega, by simpa [Hid, keysW] using HO1.out, HB1⟩
      case round =>
        obtain ⟨k, rfl, hk, HO, HB⟩ := hrel
        by_cases hlt : k < l2.length
        · obtain ⟨b, off, rfl, hc⟩ := (HW0.out.later HB.out).at (by omega)
          obtain ⟨d0, d1, d2⟩ := hc k hlt
          clear hc
          have hx : l2[k]? = some (l2[k]?.getD ⟨⟨#[]⟩, ⟨#[]⟩, false⟩) := by rw [List.getElem?_eq_getElem hlt]; rfl
          generalize l2[k]?.getD ⟨⟨#[]⟩, ⟨#[]⟩, false⟩ = x at d0 d1 d2 hx
          have HEQ : Hid (keysR l1 ++ keysW (l2.take (k + 1)) = keysR l1 ++ keysW (l2.take k) ++ [.string x.key]) := by
            have := take_map (fun r => Value.string (r : Wrv).key) hx
            rw [Hid, List.append_assoc]; exact congrArg (keysR l1 ++ ·) this
          obtain ⟨xk, xv, xg⟩ := x
          simp only at d0 d1 d2 HEQ
          have hll : (keysR l1 ++ keysW (l2.take k)).length ≤ 2000 := by simp [keysR, keysW]; omega
          have hcc : ((wr.alloc (.cells #[.string xk, .string xv, .bool xg] 69)).alloc (.cells #[.string xk] 9)).cell? ⟨wr.heap.size + 1, 0, none⟩ = some (.string xk) := by
            have := heap_alloc_new (wr.alloc (.cells #[.string xk, .string xv, .bool xg] 69)) (.cells #[.string xk] 9)
            rw [World.size_alloc] at this
            exact cell_of_heap this rfl
          have HB3 : Hid (Below w0.heap.size w0 ((wr.alloc (.cells #[.string xk, .string xv, .bool xg] 69)).alloc (.cells #[.string xk] 9))) := (HB.out.alloc HB.out.size _).alloc (by have := HB.out.size; simp; omega) _
          clear hx
          generalize keysR l1 ++ keysW (l2.take k) = LL at *
          go_wp2_with (at_builtin; refine wp_append_one 61 9 _ 16 Tryd.underlying61 Try.info_9 rfl rfl _ _ rfl w0.heap.size _ _ rfl ((HO.out.alloc _).alloc _) _ _ (.string xk) rfl hcc rfl (by omega) (by omega) HB3.out.size ?_; intro v2 w2 ho2 hb2)
          go_roundw
          case rel => exact ⟨k + 1, by go_num, by omega, by rw [HEQ.out]; exact ho2, HB3.out.trans hb2⟩
          case measure => simp [intOf]; omega
        · have hkk : l2.take k = l2 := List.take_of_length_le (by omega)
          rw [hkk] at HO
          clear hkk HO1 HB1
          go_wp2
          go_ret
          exact ⟨⟨_, rfl, HO.out.mono HB0.out.size⟩, HB0.out.trans (HB.out.mono HB0.out.size)⟩
end Go.Proofs.YteokhedljfakkaaDoor
