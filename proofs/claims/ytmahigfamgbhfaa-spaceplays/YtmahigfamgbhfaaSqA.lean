/- Two pairs of spaces in one world: what one pair's call leaves of the other. -/
import Derived.Test.YtmahigfamgbhfaaSpV
import Derived.Test.YtmahigfamgbhfaaSpZ
import Derived.Test.YtmahigfamgbhfaaSpX
namespace Go.Proofs.Ytmahigfamgbhfaa
open Go.RowKit Go.Maps
set_option linter.unusedVariables false
set_option linter.unusedSimpArgs false

theorem VRow.hold {w w' : World} {a : Option Addr} {n : Nat} {l : List Ver} (h : VRow w a n l) (hk : ∀ k off i, w.cell? ⟨k, off, none⟩ = some (.int .i64 i) → w'.heap[k]? = w.heap[k]?) : VRow w' a n l := by
  obtain ⟨h1, h2, h3, h4⟩ := h
  refine ⟨h1, h2, h3, ?_⟩
  rcases h4 with h4 | ⟨b, off, h4, hc⟩
  · exact .inl h4
  · refine .inr ⟨b, off, h4, fun i hi => ?_⟩
    obtain ⟨c0, c1, c2, c3⟩ := hc i hi
    have e : ∀ o, w'.cell? ⟨b, o, none⟩ = w.cell? ⟨b, o, none⟩ := fun o => World.cell?_of_block (hk b _ _ c0)
    exact ⟨(e _).trans c0, (e _).trans c1, (e _).trans c2, (e _).trans c3⟩
theorem Ob.hold {w w' : World} {u : Value} {l : List Ver} (h : Ob w u l) (hk : ∀ k off i, w.cell? ⟨k, off, none⟩ = some (.int .i64 i) → w'.heap[k]? = w.heap[k]?) : Ob w' u l := by
  obtain ⟨a, cap, h1, h2, h3⟩ := h
  exact ⟨a, cap, h1, h2.hold hk, h3⟩
/-- where another pair's call has written, nothing of this pair lies -/
theorem St.aside {c c2 : Nat} {w w' : World} {g bm gr g2 bm2 gr2 : Nat} {F F2 : ByteArray → List Ver} {L L2 : List LRow} (h : St c w g bm gr F L) (h2 : St c2 w g2 bm2 gr2 F2 L2) (ht : Two bm2 gr2 w w') (hb : bm ≠ bm2) (hr : gr ≠ gr2) : St c w' g bm gr F L := by
  obtain ⟨n2, D2, hs2, _⟩ := h2.sp
  obtain ⟨a2, k2, cc2, hx2, -⟩ := h2.rs.box
  have hno := no_cell_in_map hs2.map
  have hsl : ∀ k off u, w.cell? ⟨k, off, none⟩ = some u → (∀ a n c, u ≠ .slice a n c) → w'.heap[k]? = w.heap[k]? := by
    intro k off u hc hu
    refine ht.block k (World.block_lt_of_cell? w _ hc) (fun e => ?_) (fun e => ?_)
    · rw [e] at hc; exact hno _ _ hc
    · rw [e, World.cell?] at hc
      simp only [hx2] at hc
      match off, hc with
      | 0, hc => simp at hc; exact hu _ _ _ hc.symm
      | off + 1, hc => simp at hc
  have hint : ∀ k off i, w.cell? ⟨k, off, none⟩ = some (.int .i64 i) → w'.heap[k]? = w.heap[k]? := fun k off i hc => hsl k off _ hc (by simp)
  obtain ⟨n, D, hs, hn⟩ := h.sp
  refine ⟨⟨n, D, ⟨?_, ?_, fun s => ?_, hs.right, hs.keys⟩, hn⟩, ?_, h.many, h.sorted, h.agree, h.bound, h.full⟩
  · exact (hsl g 0 _ hs.cell (by simp)).trans hs.box
  · obtain ⟨es, clock, hm, Fx, hz, hd⟩ := hs.map
    refine ⟨es, clock, (ht.block bm (Array.getElem?_eq_some_iff.1 hm).1 hb (fun e => ?_)).trans hm, Fx, hz, hd⟩
    rw [e, hx2] at hm
    cases hm
  · obtain ⟨u, h3, h4⟩ := hs.obj s
    exact ⟨u, h3, h4.hold hint⟩
  · obtain ⟨a, k, cc, hx, ⟨r1, r2, r3⟩, h0⟩ := h.rs.box
    refine ⟨a, k, cc, (ht.block gr (Array.getElem?_eq_some_iff.1 hx).1 (fun e => ?_) hr).trans hx, ⟨r1, r2, ?_⟩, h0⟩
    · exact hno 0 _ (by rw [← e]; exact cell_of_heap hx rfl)
    · rcases r3 with r3 | ⟨b, off, e, hc⟩
      · exact .inl r3
      · refine .inr ⟨b, off, e, fun i hi => ?_⟩
        obtain ⟨c0, u, c1, ua, uk, uc, eu, hv, h9⟩ := hc i hi
        have hb2 := hsl b _ _ c0 (by simp)
        have e2 : ∀ o, w'.cell? ⟨b, o, none⟩ = w.cell? ⟨b, o, none⟩ := fun o => World.cell?_of_block hb2
        exact ⟨(e2 _).trans c0, u, (e2 _).trans c1, ua, uk, uc, eu, hv.hold hint, h9⟩
theorem Two.below {bm gr B : Nat} {w w' : World} (h : Two bm gr w w') (h1 : B ≤ bm) (h2 : B ≤ gr) (hB : B ≤ w.heap.size) : Below B w w' := ⟨h.os, h.tape, h.output, h.size, fun k hk => h.block k (by omega) (by omega) (by omega)⟩
theorem hid_of {p : Prop} (h : p) : Hid p := h
theorem int_beq (a b : Nat) : ((a : Int) == (b : Int)) = decide (a = b) := by
  by_cases h : a = b
  · simp [h]
  · have : ¬ (a : Int) = (b : Int) := by omega
    simp [h, this]
theorem cell_drewN (q : Nat) {w : World} {a : Addr} {v : Value} (h : w.cell? a = some v) : (w.drewN q).cell? a = some v := h
theorem b_drewN (q : Nat) {B : Nat} {a w : World} (h : Below B a w) : Below B a (w.drewN q) := h.trans ⟨rfl, rfl, rfl, Nat.le_refl _, fun _ _ => rfl⟩
/-- whether two rows are the same, up to number k -/
def wantK (L M : List LRow) (k : Nat) : Bool := decide (L.length = M.length) && (List.range k).all (fun i => (rkey L i).toList == (rkey M i).toList && sameB (rvers L i) (rvers M i))
theorem wantK_next (L M : List LRow) (k : Nat) : wantK L M (k + 1) = (wantK L M k && ((rkey L k).toList == (rkey M k).toList) && sameB (rvers L k) (rvers M k)) := by
  simp only [wantK, List.range_succ, List.all_append, List.all_cons, List.all_nil, Bool.and_true, Bool.and_assoc]
theorem wantK_len {L M : List LRow} {k : Nat} (h : wantK L M k = true) : L.length = M.length := by
  simp only [wantK, Bool.and_eq_true, decide_eq_true_eq] at h
  exact h.1
theorem want_rows {L M : List LRow} : wantK L M L.length = true ↔ L = M := by
  constructor
  · intro h
    simp only [wantK, Bool.and_eq_true, decide_eq_true_eq, List.all_eq_true, List.mem_range, beq_iff_eq] at h
    refine List.ext_getElem h.1 (fun i h1 h2 => ?_)
    obtain ⟨k1, k2⟩ := h.2 i h1
    have k1' := Go.WideShapes.bytes_inj ((bytes_same _ _).1 k1)
    have k2' := sameB_iff.1 k2
    rw [rkey, rkey, List.getElem?_eq_getElem h1, List.getElem?_eq_getElem h2] at k1'
    rw [rvers, rvers, List.getElem?_eq_getElem h1, List.getElem?_eq_getElem h2] at k2'
    exact Prod.ext k1' k2'
  · rintro rfl
    simp [wantK, sameB_self]
theorem want_all {c c2 : Nat} {w : World} {g1 bm1 gr1 g2 bm2 gr2 : Nat} {F1 F2 : ByteArray → List Ver} {L1 L2 : List LRow} (h1 : St c w g1 bm1 gr1 F1 L1) (h2 : St c2 w g2 bm2 gr2 F2 L2) : wantK L1 L2 L1.length = true ↔ ∀ s, F1 s = F2 s := by
  rw [want_rows]
  constructor
  · intro e s
    rw [← h1.agree, ← h2.agree, e]
  · intro h
    exact rows_same h1.sorted h2.sorted h1.full h2.full (fun s => by rw [h1.agree, h2.agree, h s])
theorem St.new (w : World) (g bm : Nat) (h : Sp w g bm 0 (.map []) (fun _ => [])) : St 0 (w.alloc (.cells #[.slice none 0 0] 59)) g bm w.heap.size (fun _ => []) [] :=
  ⟨⟨0, _, h.later ((Below.refl _ _).alloc (Nat.le_refl _) _), by omega⟩, ⟨none, 0, 0, heap_alloc_new w _, ⟨rfl, by omega, .inl rfl⟩, fun _ => rfl⟩, by simp, List.Pairwise.nil, fun s => rfl, fun s => ⟨by simp, by simp⟩, by simp [Full]⟩

theorem ssame_any (g1 b1 n1 g2 b2 n2 : Nat) (D1 D2 : DataW Value) (F1 F2 : ByteArray → List Ver) (w : World) (h1 : Sp w g1 b1 n1 D1 F1) (h2 : Sp w g2 b2 n2 D2 F2) :
    Calls Try.prog 39 #[.pointer (some ⟨g1, 0, none⟩), .pointer (some ⟨g2, 0, none⟩)] w fun e w' => ∃ r, e = .returned (.bool r) ∧ (r = true ↔ ∀ s, F1 s = F2 s) ∧ Below w.heap.size w w' := by
  have c1 := h1.cell
  have c2 := h2.cell
  have hq := eqf_any g1 b1 n1 g2 b2 n2 D1 D2 F1 F2 w h1 h2
  clear h1 h2
  go_enter Try.func39, Try.ntmps39
  go_wp2_with fail
  refine (all_any g1 b1 w c1).mono ?_
  rintro e w1 ⟨rfl, hw⟩
  subst w1
  go_wp2_with fail
  refine (all_any g2 b2 w c2).mono ?_
  rintro e w1 ⟨rfl, hw⟩
  subst w1
  go_wp2_with fail
  refine hq.mono ?_
  rintro e w1 ⟨r, rfl, hr, hb⟩
  go_wp2
  go_ret
  exact ⟨r, rfl, hr, hb⟩
theorem len_nilmap (w : World) (ty : TypeId) : (Builtin.len_ #[83] ty #[.map none]).run Try.prog w = .ok (.int .i64 0) w := by kernel_rfl
theorem eqf_nil (g b n : Nat) (D : DataW Value) (F : ByteArray → List Ver) (w : World) (h : Sp w g b n D F) (h0 : size D = 0) :
    Calls Try.prog 57 #[.map none, .map (some b), .func (.func 24) #[] #[]] w fun e w' => e = .returned (.bool true) ∧ Below w.heap.size w w' := by
  have l2 := h.count
  rw [h0] at l2
  have l1 := len_nilmap w
  have hrg := run_range_nilMap (P := Try.prog) w 83 9 25 Try.underlying83
  have hnx : ∀ ty, (Instr.next (.pointer (some ⟨w.heap.size, 0, none⟩)) false ty).run Try.prog (w.alloc (.mapIter none 0 #[] 0)) = _ := fun ty => run_next_nilMap w ty 0 0 #[]
  clear h h0
  go_enter Try.func57, Try.ntmps57
  go_wp2_with fail
  refine wp_loop_rounds 1 ?_
  rw [rounds_succ]
  go_wp2
  go_ret
  exact ⟨rfl, (Below.refl _ _).alloc (Nat.le_refl _) _⟩
theorem ssame_nil (g b n : Nat) (D : DataW Value) (F : ByteArray → List Ver) (w : World) (h : Sp w g b n D F) (h0 : size D = 0) :
    Calls Try.prog 39 #[.pointer none, .pointer (some ⟨g, 0, none⟩)] w fun e w' => e = .returned (.bool true) ∧ Below w.heap.size w w' := by
  have c1 := h.cell
  have hq := eqf_nil g b n D F w h h0
  clear h h0
  go_enter Try.func39, Try.ntmps39
  go_wp2_with fail
  refine (all_nil w).mono ?_
  rintro e w1 ⟨rfl, hw⟩
  subst w1
  go_wp2_with fail
  refine (all_any g b w c1).mono ?_
  rintro e w1 ⟨rfl, hw⟩
  subst w1
  go_wp2_with fail
  refine hq.mono ?_
  rintro e w1 ⟨rfl, hb⟩
  go_wp2
  go_ret
  exact ⟨rfl, hb⟩
end Go.Proofs.Ytmahigfamgbhfaa
