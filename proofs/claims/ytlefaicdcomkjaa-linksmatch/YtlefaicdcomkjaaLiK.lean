/- The program's From and All. -/
import Derived.Test.YtlefaicdcomkjaaLiJ
namespace Go.Proofs.Ytlefaicdcomkjaa
open Go Go.RowKit
set_option linter.unusedVariables false
set_option linter.unusedSimpArgs false

/-- entries told: as rows of the call's own -/
def Told (w : World) (P : List Ev) (r : Ending) (w' : World) : Prop := ∃ Q v, r = .returned v ∧ w'.ownsRow w.heap.size 45 10 v Q.length (Q.flatMap Ev.cells) ∧ Rels P Q ∧ (∀ e ∈ Q, e.mem w') ∧ Below w.heap.size w w'
theorem told_none (g : Nat) (w : World) (hc : w.cell? ⟨g, 0, none⟩ = some (.slice none 0 0)) : Calls Try.prog 33 #[.pointer (some ⟨g, 0, none⟩), .int .i64 0, .int .i64 0] w fun e w' => e = .returned (.slice none 0 0) ∧ Below w.heap.size w w' := by
  have h1 := cloneE_any none 0 0 [] w ⟨fun _ => rfl, fun ad e => by cases e⟩ rfl (by simp) (by simp)
  have h2 := all_any g _ w hc
  go_enter Try.func33, Try.ntmps33
  go_wp2_with (first | (go_at_call 41; refine h2.mono ?_; rintro e w' ⟨rfl, rfl⟩) | (go_at_call 45; refine h1.mono ?_; rintro e w2 ⟨⟨u, rfl, -, hu⟩, hb⟩; obtain rfl := hu (by first | trivial | rfl); have HB : Hid (Below w'.heap.size w' w2) := hb; clear hb hu) | fail)
  refine wp_loop_rounds 1 ?_
  rw [rounds_succ]
  go_wp2
  go_ret
  exact ⟨rfl, HB.out⟩
theorem told_any (g : Nat) (ob : Option Nat) (L : List Ev) (f t : Nat) (w : World) (h : Lg w g ob L) (h1 : f ≤ t) (h2 : t ≤ L.length) (hl : L.length ≤ 1000) :
    Calls Try.prog 33 #[.pointer (some ⟨g, 0, none⟩), .int .i64 (f : Nat), .int .i64 (t : Nat)] w (Told w (piece L f t)) := by
  obtain ⟨a, c, hg, ho, hc, -⟩ := h.cell
  obtain ⟨a', c', e, q1, q2, q3, -⟩ := ev_at ho
  simp only [Value.slice.injEq, true_and] at e
  obtain ⟨rfl, rfl⟩ := e
  cases a with
  | none =>
    obtain ⟨rfl, hL⟩ := q3 rfl
    subst hL
    have ht : t = 0 := by simpa using h2
    subst ht
    have hf : f = 0 := by omega
    subst hf
    refine (told_none g w hc).mono ?_
    rintro e w' ⟨rfl, hb⟩
    exact ⟨[], _, rfl, World.ownsRow_nil _ _ _ _, Rels.refl [], by simp, hb⟩
  | some ad =>
    obtain ⟨b, rfl⟩ : ∃ b, ad = ⟨b, 0, none⟩ := by
      rcases ho.2 with ⟨h0, _⟩ | ⟨q, cap, cur, hv, _⟩
      · cases h0
      · simp only [Value.slice.injEq, Option.some.injEq] at hv
        exact ⟨q, hv.1⟩
    exact told_some g ob L b c f t w h hc ho h1 h2 q1 q2 hl
theorem piece_all (L : List Ev) : piece L 0 L.length = L := by simp [piece]
theorem allE_any (g : Nat) (ob : Option Nat) (L : List Ev) (w : World) (h : Lg w g ob L) (hl : L.length ≤ 1000) : Calls Try.prog 11 #[.pointer (some ⟨g, 0, none⟩)] w (Told w L) := by
  have h1 := told_any g ob L 0 L.length w h (Nat.zero_le _) (Nat.le_refl _) hl
  rw [piece_all] at h1
  have h2 := len_any g ob L w h
  clear h
  go_enter Try.func11, Try.ntmps11
  go_wp2_with (first | (go_at_call 27; refine h2.mono ?_; rintro e wz ⟨rfl, hwz⟩; subst wz) | (go_at_call 33; refine h1.mono ?_; rintro e w2 ⟨Q, v, rfl, h3⟩; have HB : Hid (w2.ownsRow w.heap.size 45 10 v Q.length (Q.flatMap Ev.cells) ∧ Rels L Q ∧ (∀ e ∈ Q, e.mem w2) ∧ Below w.heap.size w w2) := h3; clear h3) | fail)
  go_ret
  exact ⟨Q, v, rfl, HB.out⟩
theorem from_any (g : Nat) (ob : Option Nat) (L : List Ev) (prev m : Nat) (w : World) (h : Lg w g ob L) (hl : L.length ≤ 1000) (hp : prev ≤ L.length) (h1 : 1 ≤ m) (hm : m ≤ 1000000) :
    Calls Try.prog 12 #[.pointer (some ⟨g, 0, none⟩), .int .i64 (prev : Nat), .int .i64 (m : Nat)] w (Told w ((L.drop prev).take m)) := by
  have h3 := told_any g ob L prev (prev + min m (L.length - prev)) w h (by omega) (by omega) hl
  have e1 : piece L prev (prev + min m (L.length - prev)) = (L.drop prev).take m := by
    rw [piece, Nat.add_sub_cancel_left, Nat.min_comm, ← List.length_drop (i := prev), ← List.take_take]
    exact List.take_of_length_le (by rw [List.length_take]; exact Nat.min_le_right _ _)
  rw [e1] at h3
  have e2 : (((prev + min m (L.length - prev) : Nat)) : Int) = (prev : Nat) + min (m : Int) ((L.length : Int) - (prev : Nat)) := by omega
  rw [e2] at h3
  have h2 := len_any g ob L w h
  have h4 := reach_any g ob L prev w h
  rw [(reachB_iff _ _).2 ⟨by omega, by omega⟩] at h4
  have hd : decide (((m : Nat) : Int) < 1) = false := by simp; omega
  have b1 : min ((m : Nat) : Int) ((L.length : Int) - (prev : Nat)) ≤ 1000000 := by omega
  have b2 : 0 ≤ min ((m : Nat) : Int) ((L.length : Int) - (prev : Nat)) := by omega
  have HT : Hid (Calls Try.prog 33 #[.pointer (some ⟨g, 0, none⟩), .int .i64 (prev : Nat), .int .i64 ((prev : Nat) + min (m : Int) ((L.length : Int) - (prev : Nat)))] w (Told w ((L.drop prev).take m))) := h3
  clear h e1 e2 h3
  go_enter Try.func12, Try.ntmps12
  go_wp2_with (first | (go_at_call 34; refine h4.mono ?_; rintro e wz ⟨rfl, hwz⟩; subst wz) | (go_at_call 27; refine h2.mono ?_; rintro e wz ⟨rfl, hwz⟩; subst wz) | fail)
  refine HT.out.mono ?_
  rintro e w2 ⟨Q, v, rfl, h3⟩
  have HB : Hid (w2.ownsRow w.heap.size 45 10 v Q.length (Q.flatMap Ev.cells) ∧ Rels ((L.drop prev).take m) Q ∧ (∀ e ∈ Q, e.mem w2) ∧ Below w.heap.size w w2) := h3
  clear h3 b1 b2
  go_wp2
  go_ret
  exact ⟨Q, v, rfl, HB.out⟩
end Go.Proofs.Ytlefaicdcomkjaa
