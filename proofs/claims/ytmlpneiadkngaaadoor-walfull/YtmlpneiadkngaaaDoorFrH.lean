/- Whether two rows of records are the same: a contract. -/
import Derived.Test.YtmlpneiadkngaaaDoorFrF
namespace Go.Proofs.YtmlpneiadkngaaaDoor
open Go.RowKit
set_option linter.unusedVariables false

/-- rows of bytes, as a slice's elements lie in memory -/
def Recv (w : World) (a : Option Addr) (n : Nat) (rs : List (List Nat)) : Prop :=
  rs.length = n ∧ (n = 0 ∨ ∃ g off, a = some ⟨g, off, none⟩ ∧ ∀ (i : Nat) r, rs[i]? = some r → ∃ x, w.cell? ⟨g, off + i, none⟩ = some x ∧ Rec1 w x r)
theorem Recs.form {w : World} {v : Value} {rs : List (List Nat)} (h : Recs w v rs) : ∃ a cap, v = .slice a rs.length cap ∧ rs.length ≤ cap ∧ cap ≤ maxLen ∧ Recv w a rs.length rs := by
  obtain ⟨base, vs, h1, h2, h3⟩ := h
  obtain ⟨a, cap, hv, hc, hm, hn, hs⟩ := h1.shape
  rw [h2] at hv hc
  refine ⟨a, cap, hv, hc, hm, rfl, ?_⟩
  by_cases h0 : rs.length = 0
  · exact .inl h0
  · right
    cases a with
    | none =>
      have := (hn rfl).1
      rw [this] at h2
      exact absurd h2.symm (by simpa using h0)
    | some x =>
      obtain ⟨g, rfl, _, _, hcell⟩ := hs x rfl
      refine ⟨g, 0, rfl, fun i r hr => ?_⟩
      have hi : i < rs.length := (List.getElem?_eq_some_iff.1 hr).1
      have hx : vs[i]? = some (vs[i]'(by omega)) := List.getElem?_eq_getElem (by omega)
      exact ⟨_, by rw [Nat.zero_add]; exact hcell i _ hx, h3 i _ r hx hr⟩

set_option maxRecDepth 100000 in
set_option maxHeartbeats 2000000 in
theorem same_any (a1 a2 : Option Addr) (n c1 c2 : Nat) (rs : List (List Nat)) (w : World) (hn : n ≤ 1000000) (h1 : Recv w a1 n rs) (h2 : Recv w a2 n rs) :
    Calls Tryd.prog 11 #[.slice a1 n c1, .slice a2 n c2] w fun e w' => e = .returned (.bool true) ∧ Below w.heap.size w w' := by
  have H1 : Hid (Recv w a1 n rs) := h1
  have H2 : Hid (Recv w a2 n rs) := h2
  have hl := h1.1
  clear h1 h2
  go_enter Tryd.func11, Tryd.ntmps11
  go_wp2
  go_loopw [13] (fun i wr => ∃ k : Nat, k ≤ n ∧ i = .int .i64 k ∧ Hid (∃ q, wr = w.drewN q)) (fun i wr => n - (intOf i).toNat)
  case atStart => exact ⟨0, Nat.zero_le _, rfl, 0, rfl⟩
  case round =>
    obtain ⟨k, hk, rfl, hq⟩ := hrel
    obtain ⟨q, rfl⟩ := hq.out
    by_cases h0 : k < n
    · obtain ⟨g1, o1, rfl, hc1⟩ : ∃ g off, a1 = some ⟨g, off, none⟩ ∧ ∀ (i : Nat) r, rs[i]? = some r → ∃ x, w.cell? ⟨g, off + i, none⟩ = some x ∧ Rec1 w x r := by
        rcases H1.out.2 with h | h
        · omega
        · exact h
      obtain ⟨g2, o2, rfl, hc2⟩ : ∃ g off, a2 = some ⟨g, off, none⟩ ∧ ∀ (i : Nat) r, rs[i]? = some r → ∃ x, w.cell? ⟨g, off + i, none⟩ = some x ∧ Rec1 w x r := by
        rcases H2.out.2 with h | h
        · omega
        · exact h
      have hkl : k < rs.length := by omega
      obtain ⟨x1, hx1, b1, m1, p1, rfl, hr1⟩ := hc1 k _ (List.getElem?_eq_getElem hkl)
      obtain ⟨x2, hx2, b2, m2, p2, rfl, hr2⟩ := hc2 k _ (List.getElem?_eq_getElem hkl)
      have k1 := fun j => conv_row (Row.drews (k := j) hr1) p1
      have k2 := fun j => conv_row (Row.drews (k := j) hr2) p2
      generalize rs[k] = r at hr1 hr2 k1 k2
      clear hr1 hr2 hc1 hc2
      go_wp2
      go_quiet (fail)
      go_wp2
      exact ⟨⟨k + 1, by omega, by go_num, _, rfl⟩, by simp [intOf]; omega⟩
    · go_wp2
      go_ret
      exact ⟨rfl, drewN_below (Below.refl _ _) _⟩
end Go.Proofs.YtmlpneiadkngaaaDoor
