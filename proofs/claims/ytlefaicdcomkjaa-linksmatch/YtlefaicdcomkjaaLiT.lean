/- What a take does to three logs that match; slices told of flat logs. -/
import Derived.Test.YtlefaicdcomkjaaLiS
import Derived.Test.YtlefaicdcomkjaaLiG
namespace Go.Proofs.Ytlefaicdcomkjaa
open Go Go.RowKit
set_option linter.unusedVariables false
set_option linter.unusedSimpArgs false

theorem owns_ge {w : World} {b e n m : Nat} {v : Value} {xs : List Value} (h : w.ownsRow b e n v m xs) (k : Nat) (hk : v.ownBlock = some k) : b ≤ k := by
  rcases h.2 with ⟨rfl, _⟩ | ⟨q, cap, cur, rfl, hq, hh, hn⟩
  · simp [Value.ownBlock] at hk
  · simp [Value.ownBlock] at hk
    omega
theorem epL_flat (A : Lo) (i : Int) : epL (flatL A) i = epoL A i := by rw [epL, loL_flat]
theorem ep_last {ep : Int} {ld : Nat} {X : Nat → Lo} (h : Inv ep ld X) (hep : 1 ≤ ep) (x : Nat) (i : Int) : epoL (X x) i ≤ ep := by
  unfold epoL
  split
  · rename_i hc
    have hl : i.toNat - 1 < (X x).length := by omega
    rw [List.getElem?_eq_getElem hl]
    exact (h.ok x _ (List.getElem_mem hl)).2.1
  · omega
theorem epo_at {A : Lo} {i : Nat} (h1 : 1 ≤ i) (h2 : i ≤ A.length) : ∃ a, A[i - 1]? = some a ∧ epoL A i = a.1 := by
  have hl : i - 1 < A.length := by omega
  refine ⟨A[i - 1], List.getElem?_eq_getElem hl, ?_⟩
  unfold epoL
  rw [if_pos ⟨by omega, by omega⟩, show ((i : Nat) : Int).toNat - 1 = i - 1 by omega, List.getElem?_eq_getElem hl]
  rfl
theorem new_inv {ep : Int} {ld : Nat} {X : Nat → Lo} (h : Inv ep ld X) (a b prev m : Nat) (ha : a ≠ ld) (hp : prev ≤ (X b).length) :
    Inv ep ld (upd X a (newLog (X a) (((X b).drop prev).take m) prev (epoL (X b) prev))) ∧ ∀ L, (X a).length ≤ L → (X b).length ≤ L → (newLog (X a) (((X b).drop prev).take m) prev (epoL (X b) prev)).length ≤ L := by
  unfold newLog
  split
  · rename_i hc
    have hf := hc.1
    unfold fitsB at hf
    simp only [Bool.and_eq_true, beq_iff_eq] at hf
    obtain ⟨hr, he⟩ := hf
    have hpa := (reachB_iff _ _).1 hr
    rw [flatL_length] at hpa
    rw [epL_flat] at he
    have hfit : prev = 0 ∨ ∃ x y, (X a)[prev - 1]? = some x ∧ (X b)[prev - 1]? = some y ∧ x.1 = y.1 := by
      by_cases h0 : prev = 0
      · exact .inl h0
      · obtain ⟨x, hx1, hx2⟩ := epo_at (A := X a) (i := prev) (by omega) (by omega)
        obtain ⟨y, hy1, hy2⟩ := epo_at (A := X b) (i := prev) (by omega) hp
        exact .inr ⟨x, y, hx1, hy1, by rw [← hx2, ← hy2]; exact he⟩
    rw [take_is (h.mat a b) (by omega) hp hfit]
    exact ⟨h.take a b _ ha, fun L _ h2 => by rw [List.length_take]; omega⟩
  · rw [upd_id]
    exact ⟨h, fun L h1 _ => h1⟩
theorem told_flat (A : Lo) (p m : Nat) : ((flatL A).drop p).take m = flatL ((A.drop p).take m) := by
  simp only [flatL, List.map_take, List.map_drop]
theorem three_len {w : World} {p sb : Nat} {G : Nat → Nat} {B : Nat → Option Nat} {X : Nat → Lo} (h : Three w p sb G B X) (x : Nat) (hx : x < 3) (n : Nat) (hn : (X x).length = n) :
    ∀ q, Calls Try.prog 27 #[.pointer (some ⟨G x, 0, none⟩)] (w.drewN q) fun e w' => e = .returned (.int .i64 (n : Nat)) ∧ w' = w.drewN q := by
  intro q
  have := len_any (G x) (B x) (flatL (X x)) (w.drewN q) ((h.lg x hx).drews q)
  rw [flatL_length, hn] at this
  exact this
end Go.Proofs.Ytlefaicdcomkjaa
