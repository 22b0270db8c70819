/- slices.Clone of entries, reads, writes; an entry with lists of its own. -/
import Derived.Test.YtlefaicdcomkjaaLiA
namespace Go.Proofs.Ytlefaicdcomkjaa
open Go Go.RowKit
set_option linter.unusedVariables false
set_option linter.unusedSimpArgs false

/-- elements, where a slice leads -/
def At {α : Type} (f : α → List Value) (w : World) (a : Option Addr) (l : List α) : Prop := (a = none → l = []) ∧ ∀ ad, a = some ad → ad.spot = none ∧ ∀ j u, (l.flatMap f)[j]? = some u → w.cell? (ad.add j) = some u
theorem At.later {α : Type} {f : α → List Value} {w w' : World} {a : Option Addr} {l : List α} (h : At f w a l) (hb : Below w.heap.size w w') : At f w' a l :=
  ⟨h.1, fun ad ha => ⟨(h.2 ad ha).1, fun j u hu => by have := (h.2 ad ha).2 j u hu; exact (hb.cell (World.block_lt_of_cell? _ _ this)).trans this⟩⟩
theorem At.of {α : Type} {f : α → List Value} {w : World} {b e n m c : Nat} {a : Option Addr} {l : List α} (h : w.ownsRow b e n (.slice a m c) l.length (l.flatMap f)) : At f w a l := by
  have hz := h.2
  rcases hz with hz | ⟨g, cap, cur, hv, hg, hh, hn, hm, hs, ht⟩
  · obtain ⟨h2, h3⟩ := hz
    simp only [Value.slice.injEq] at h2
    exact And.intro (fun _ => List.length_eq_zero_iff.1 h3) (fun ad e => by rw [h2.1] at e; cases e)
  · simp only [Value.slice.injEq] at hv
    refine And.intro (fun e => by rw [hv.1] at e; cases e) (fun ad e => ?_)
    rw [hv.1] at e
    simp only [Option.some.injEq] at e
    subst e
    refine ⟨rfl, fun j u hu => ?_⟩
    have hj := (List.getElem?_eq_some_iff.1 hu).1
    have hfl := h.1
    rw [Addr.add_lit, Nat.zero_add]
    refine cell_of_heap hh ?_
    rw [← Array.getElem?_toList, ← List.getElem?_take_of_lt (show j < l.length * n by omega), ht]
    exact hu
theorem wp_append_at {α : Type} (f : α → List Value) (n bytes : Nat) (t e : TypeId) (z : Value) (hu : Try.prog.underlying t = some (.slice e)) (hinfo : (Try.prog.info? e).map (fun i => (i.zero, i.size, i.bytes)) = some (some z, n, bytes)) (hzs : z.cells.size = n) (hn : 0 < n) (hf : ∀ x, (f x).length = n) (hby : bytes ≤ 1000)
    {w : World} {ops : Array Oper} {rest : List Oper} {o : Oper} {a : Act} {Q : Exit → Act → World → Prop} (hgd : o.guard = none) (s x : Operand)
    (ho : o.op = .call { callee := .builtin .append, args := #[s, x], argTypes := #[t, t] })
    (base : Nat) (v : Value) (l : List α) (hs : a.eval s = v) (hown : w.ownsRow base e n v l.length (l.flatMap f))
    (ad : Addr) (m c : Nat) (news : List α) (hx : a.eval x = .slice (some ad) m c) (hml : m = news.length) (hc : At f w (some ad) news) (h1 : ∀ u ∈ news.flatMap f, u.oneCell' = true)
    (hlen : l.length + m ≤ 1000000) (hbase : base ≤ w.heap.size)
    (h : ∀ v' w', w'.ownsRow base e n v' (l ++ news).length ((l ++ news).flatMap f) → w.grownBy w' v.ownBlock → wpList Try.prog ops Q rest (a.put o.dst v') w') : wpList Try.prog ops Q (o :: rest) a w := by
  obtain ⟨i0, hi, hz0, hz1, hz2⟩ := info_parts hinfo
  subst hml
  have hl : (news.flatMap f).length = news.length * n := flat_length f n hf news
  have hbb : (l.length + news.length) * bytes ≤ 140737488355328 := Nat.le_trans (Nat.mul_le_mul hlen hby) (by decide)
  have h63 : l.length + news.length ≤ maxLen := by unfold maxLen; omega
  refine wpList_append_own w hgd s x t ho base e i0 z n bytes hu hi hz0 hz1 hz2 hzs hn v _ _ hs hown ad _ c _ hx hl (hc.2 ad rfl).2 h1 h63 hbb hbase ?_
  intro v' w' h2 h3 _
  refine h v' w' ?_ h3
  rw [List.length_append, List.flatMap_append]
  exact h2
theorem owns_new {w : World} (e n : Nat) : (w.alloc (.cells #[] e)).ownsRow w.heap.size e n (.slice (some ⟨w.heap.size, 0, none⟩) 0 0) 0 [] := by
  refine ⟨by simp, .inr ⟨w.heap.size, 0, #[], rfl, Nat.le_refl _, heap_alloc_new _ _, Nat.le_refl _, by simp [maxLen], by simp, by simp⟩⟩
theorem below_of_grow {w w1 w2 : World} {g : Nat} (hb : Below w.heap.size w w1) (h : w1.grownBy w2 (some g)) (hg : w.heap.size ≤ g) : Below w.heap.size w w2 :=
  ⟨h.os.trans hb.os, h.tape.trans hb.tape, h.output.trans hb.output, Nat.le_trans hb.size h.size, fun k hk => (h.block k (Nat.lt_of_lt_of_le hk hb.size) (fun e => by simp only [Option.some.injEq] at e; omega)).trans (hb.block k hk)⟩

set_option maxRecDepth 100000 in
theorem cloneR_any (a : Option Addr) (m c : Nat) (l : List Rdv) (w : World) (h : At Rdv.cells w a l) (hm : m = l.length) (hl : l.length ≤ 1000000) :
    Calls Try.prog 46 #[.slice a m c] w fun e w' => (∃ u, e = .returned u ∧ w'.ownsRow w.heap.size 95 2 u l.length (l.flatMap Rdv.cells) ∧ (a = none → u = .slice none 0 0)) ∧ Below w.heap.size w w' := by
  have hnil : ∀ (w : World) (a : Option Addr) (l c : Nat), (binOp .eql 39 (.slice a l c) (.slice none 0 0)).run Try.prog w = .ok (.bool a.isNone) w := fun w a l c => Lib.run_eql_slice_nil w 39 95 a l c 0 0 Try.underlying39
  cases a with
  | none =>
    have hx : l = [] := h.1 rfl
    subst hx
    go_enter Try.func46, Try.ntmps46
    go_wp2
    go_ret
    exact ⟨⟨_, rfl, World.ownsRow_nil _ _ _ _, fun _ => rfl⟩, Below.refl _ _⟩
  | some ad =>
    have hb : Below w.heap.size w (w.alloc (.cells #[] 95)) := (Below.refl _ _).alloc (Nat.le_refl _) _
    have HO : Hid ((w.alloc (.cells #[] 95)).ownsRow w.heap.size 95 2 (.slice (some ⟨w.heap.size, 0, none⟩) 0 0) ([] : List Rdv).length (([] : List Rdv).flatMap Rdv.cells)) := owns_new 95 2
    have HR : Hid (At Rdv.cells (w.alloc (.cells #[] 95)) (some ad) l) := h.later hb
    have HB : Hid (Below w.heap.size w (w.alloc (.cells #[] 95))) := hb
    clear h hb
    go_enter Try.func46, Try.ntmps46
    go_wp2_with (at_builtin; refine wp_append_at Rdv.cells 2 24 39 95 _ Try.underlying39 Try.info_95 rfl (by decide) (fun _ => rfl) (by decide) rfl _ _ rfl w.heap.size _ [] rfl HO.out ad m c l rfl hm HR.out (Rdv.one l) (by simp; omega) HB.out.size ?_; intro v2 w2 ho2 hg2; obtain ⟨a9, n9, c9, rfl⟩ := owns_slice ho2; have HF : Hid (w2.ownsRow w.heap.size 95 2 (.slice a9 n9 c9) l.length (l.flatMap Rdv.cells) ∧ Below w.heap.size w w2) := ⟨ho2, below_of_grow HB.out hg2 (Nat.le_refl _)⟩; clear ho2 hg2)
    go_ret
    exact ⟨⟨_, rfl, HF.out.1, fun e => by cases e⟩, HF.out.2⟩

set_option maxRecDepth 100000 in
theorem cloneW_any (a : Option Addr) (m c : Nat) (l : List Wrv) (w : World) (h : At Wrv.cells w a l) (hm : m = l.length) (hl : l.length ≤ 1000000) :
    Calls Try.prog 47 #[.slice a m c] w fun e w' => (∃ u, e = .returned u ∧ w'.ownsRow w.heap.size 98 3 u l.length (l.flatMap Wrv.cells) ∧ (a = none → u = .slice none 0 0)) ∧ Below w.heap.size w w' := by
  have hnil : ∀ (w : World) (a : Option Addr) (l c : Nat), (binOp .eql 40 (.slice a l c) (.slice none 0 0)).run Try.prog w = .ok (.bool a.isNone) w := fun w a l c => Lib.run_eql_slice_nil w 40 98 a l c 0 0 Try.underlying40
  cases a with
  | none =>
    have hx : l = [] := h.1 rfl
    subst hx
    go_enter Try.func47, Try.ntmps47
    go_wp2
    go_ret
    exact ⟨⟨_, rfl, World.ownsRow_nil _ _ _ _, fun _ => rfl⟩, Below.refl _ _⟩
  | some ad =>
    have hb : Below w.heap.size w (w.alloc (.cells #[] 98)) := (Below.refl _ _).alloc (Nat.le_refl _) _
    have HO : Hid ((w.alloc (.cells #[] 98)).ownsRow w.heap.size 98 3 (.slice (some ⟨w.heap.size, 0, none⟩) 0 0) ([] : List Wrv).length (([] : List Wrv).flatMap Wrv.cells)) := owns_new 98 3
    have HR : Hid (At Wrv.cells (w.alloc (.cells #[] 98)) (some ad) l) := h.later hb
    have HB : Hid (Below w.heap.size w (w.alloc (.cells #[] 98))) := hb
    clear h hb
    go_enter Try.func47, Try.ntmps47
    go_wp2_with (at_builtin; refine wp_append_at Wrv.cells 3 40 40 98 _ Try.underlying40 Try.info_98 rfl (by decide) (fun _ => rfl) (by decide) rfl _ _ rfl w.heap.size _ [] rfl HO.out ad m c l rfl hm HR.out (Wrv.one l) (by simp; omega) HB.out.size ?_; intro v2 w2 ho2 hg2; obtain ⟨a9, n9, c9, rfl⟩ := owns_slice ho2; have HF : Hid (w2.ownsRow w.heap.size 98 3 (.slice a9 n9 c9) l.length (l.flatMap Wrv.cells) ∧ Below w.heap.size w w2) := ⟨ho2, below_of_grow HB.out hg2 (Nat.le_refl _)⟩; clear ho2 hg2)
    go_ret
    exact ⟨⟨_, rfl, HF.out.1, fun e => by cases e⟩, HF.out.2⟩
theorem Try.info_45 : (Try.prog.info? 45).map (fun i => (i.zero, i.size, i.bytes)) = some (some (.agg #[.int .u64 0, .int .i64 0, .int .i64 0, .int .u64 0, .bool false, .slice none 0 0, .slice none 0 0, .int .i64 0, .int .u64 0, .int .i64 0]), 10, 112) := by kernel_rfl

set_option maxRecDepth 100000 in
theorem cloneE_any (a : Option Addr) (m c : Nat) (l : List Ev) (w : World) (h : At Ev.cells w a l) (hm : m = l.length) (hl : l.length ≤ 1000000) (h1 : ∀ u ∈ l.flatMap Ev.cells, u.oneCell' = true) :
    Calls Try.prog 45 #[.slice a m c] w fun e w' => (∃ u, e = .returned u ∧ w'.ownsRow w.heap.size 45 10 u l.length (l.flatMap Ev.cells) ∧ (a = none → u = .slice none 0 0)) ∧ Below w.heap.size w w' := by
  have hnil : ∀ (w : World) (a : Option Addr) (l c : Nat), (binOp .eql 30 (.slice a l c) (.slice none 0 0)).run Try.prog w = .ok (.bool a.isNone) w := fun w a l c => Lib.run_eql_slice_nil w 30 45 a l c 0 0 Try.underlying30
  cases a with
  | none =>
    have hx : l = [] := h.1 rfl
    subst hx
    go_enter Try.func45, Try.ntmps45
    go_wp2
    go_ret
    exact ⟨⟨_, rfl, World.ownsRow_nil _ _ _ _, fun _ => rfl⟩, Below.refl _ _⟩
  | some ad =>
    have hb : Below w.heap.size w (w.alloc (.cells #[] 45)) := (Below.refl _ _).alloc (Nat.le_refl _) _
    have HO : Hid ((w.alloc (.cells #[] 45)).ownsRow w.heap.size 45 10 (.slice (some ⟨w.heap.size, 0, none⟩) 0 0) ([] : List Ev).length (([] : List Ev).flatMap Ev.cells)) := owns_new 45 10
    have HR : Hid (At Ev.cells (w.alloc (.cells #[] 45)) (some ad) l) := h.later hb
    have HB : Hid (Below w.heap.size w (w.alloc (.cells #[] 45))) := hb
    clear h hb
    go_enter Try.func45, Try.ntmps45
    go_wp2_with (at_builtin; refine wp_append_at Ev.cells 10 112 30 45 _ Try.underlying30 Try.info_45 rfl (by decide) (fun _ => rfl) (by decide) rfl _ _ rfl w.heap.size _ [] rfl HO.out ad m c l rfl hm HR.out h1 (by simp; omega) HB.out.size ?_; intro v2 w2 ho2 hg2; obtain ⟨a9, n9, c9, rfl⟩ := owns_slice ho2; have HF : Hid (w2.ownsRow w.heap.size 45 10 (.slice a9 n9 c9) l.length (l.flatMap Ev.cells) ∧ Below w.heap.size w w2) := ⟨ho2, below_of_grow HB.out hg2 (Nat.le_refl _)⟩; clear ho2 hg2)
    go_ret
    exact ⟨⟨_, rfl, HF.out.1, fun e => by cases e⟩, HF.out.2⟩
end Go.Proofs.Ytlefaicdcomkjaa
