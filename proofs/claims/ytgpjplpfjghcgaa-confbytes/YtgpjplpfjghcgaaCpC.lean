/- The configuration's bytes put: slices.Clone of bytes. -/
import Derived.Test.YtgpjplpfjghcgaaCoD
import Derived.Test.YtgpjplpfjghcgaaCpA
namespace Go.Proofs.Ytgpjplpfjghcgaa
open Go Go.RowKit
set_option linter.unusedVariables false
set_option linter.unusedSimpArgs false
set_option maxRecDepth 100000 in
set_option maxHeartbeats 2000000 in
theorem clone_byte (a : Option Addr) (n c : Nat) (xs : List Value) (w : World) (h : Vals w a n xs) (hm : n ≤ 100000) (h1 : ∀ u ∈ xs, u.oneCell' = true) :
    Calls Try.prog 43 #[.slice a n c] w fun e w' => (∃ v, e = .returned v ∧ OwnV w' w.heap.size 5 v xs) ∧ Below w.heap.size w w' := by
  have hnil : ∀ (w : World) (a : Option Addr) (l c : Nat), (binOp .eql 48 (.slice a l c) (.slice none 0 0)).run Try.prog w = .ok (.bool a.isNone) w := fun w a l c => Lib.run_eql_slice_nil w 48 5 a l c 0 0 Try.underlying48
  cases a with
  | none =>
    have hx : xs = [] := by
      rcases h.2 with e | ⟨b, off, e, _⟩
      · exact e
      · cases e
    subst hx
    go_enter Try.func43, Try.ntmps43
    go_wp2
    go_ret
    exact ⟨⟨_, rfl, OwnV.nil _ _ _⟩, Below.refl _ _⟩
  | some ad =>
    have hb : Below w.heap.size w (w.alloc (.cells #[] 5)) := (Below.refl _ _).alloc (Nat.le_refl _) _
    have HN : Hid (∀ j u, xs[j]? = some u → (w.alloc (.cells #[] 5)).cell? (ad.add j) = some u) := (h.later hb).news
    have HO : Hid ((w.alloc (.cells #[] 5)).ownsRow w.heap.size 5 1 (.slice (some ⟨w.heap.size, 0, none⟩) 0 0) 0 []) := World.ownsRow_made w #[] 0 (Nat.le_refl _) (Nat.zero_le _) rfl
    have HB : Hid (Below w.heap.size w (w.alloc (.cells #[] 5))) := hb
    have HL : Hid (xs.length = n) := h.1
    have H1 : Hid (∀ u ∈ xs, u.oneCell' = true) := h1
    obtain ⟨i0, hi, hz0, hz1, hz2⟩ := info_parts Try.info_5
    have HI : Hid (Try.prog.info? 5 = some i0 ∧ i0.zero = some (.int .u8 0) ∧ i0.size = 1 ∧ i0.bytes = 1) := ⟨hi, hz0, hz1, hz2⟩
    clear h h1 hb hi hz0 hz1 hz2
    go_enter Try.func43, Try.ntmps43
    go_wp2_with (at_builtin; refine wpList_append_own _ rfl _ _ 48 rfl w.heap.size 5 i0 _ 1 1 Try.underlying48 HI.out.1 HI.out.2.1 HI.out.2.2.1 HI.out.2.2.2 rfl (by decide) _ 0 [] rfl HO.out _ n c xs rfl (by have := HL.out; omega) HN.out H1.out (by unfold maxLen; omega) (by omega) (by simp) ?_; intro v2 w2 ho2 hg2 _)
    go_ret
    refine ⟨⟨_, rfl, ?_⟩, HB.out.grown hg2 (by simp) (fun k hk => (World.ownsRow.lt HO.out k hk).1)⟩
    rw [Nat.zero_add, List.nil_append] at ho2
    unfold OwnV
    rw [HL.out]
    exact ho2

end Go.Proofs.Ytgpjplpfjghcgaa
