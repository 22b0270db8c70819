/- Two spaces held against each other: plain mathematics. -/
import Derived.Test.YtmahigfamgbhfaaSpX
import Derived.StringKeys
import Derived.Sort.KeysCollected
namespace Go.Proofs.Ytmahigfamgbhfaa
open Go.RowKit Go.Maps
set_option linter.unusedVariables false
set_option linter.unusedSimpArgs false

abbrev Bs := List UInt8
theorem nodup_length : ∀ {l m : List Bs}, l.Nodup → (∀ x ∈ l, x ∈ m) → l.length ≤ m.length
  | [], m, _, _ => Nat.zero_le _
  | a :: l, m, hn, hs => by
    have h' := List.nodup_cons.1 hn
    have ha := hs a (by simp)
    have h1 : ∀ x ∈ l, x ∈ m.erase a := fun x hx => (List.mem_erase_of_ne (fun e => h'.1 (by rw [← e]; exact hx))).2 (hs x (by simp [hx]))
    have h2 := nodup_length h'.2 h1
    rw [List.length_erase_of_mem ha] at h2
    have h3 : 0 < m.length := List.length_pos_of_mem ha
    simp only [List.length_cons]
    omega
theorem nodup_back {l m : List Bs} (hl : l.Nodup) (hm : m.Nodup) (hs : ∀ x ∈ l, x ∈ m) (hlen : m.length ≤ l.length) : ∀ x ∈ m, x ∈ l := by
  intro x hx
  by_cases h : x ∈ l
  · exact h
  · have := nodup_length (l := x :: l) (m := m) (List.nodup_cons.2 ⟨h, hl⟩) (fun y hy => by
      rcases List.mem_cons.1 hy with rfl | hy
      · exact hx
      · exact hs y hy)
    simp only [List.length_cons] at this
    omega
/-- the keys of a map of texts -/
theorem map_keys {w : World} {bm n : Nat} {D : DataW Value} (h : w.ownsMap Try.prog 9 Rv bm n D) : ∃ ks : List Bs, ks.Nodup ∧ size D = ks.length ∧ ∀ b, b ∈ ks ↔ has D (.string b) = true := by
  obtain ⟨l, rfl, hap, -⟩ := h.entries law9
  obtain ⟨l', e, hk⟩ := h.keysOf
  simp only [DataW.map.injEq] at e
  subst e
  have hstr : ∀ p ∈ l, ∃ b : Bs, p.1 = .string b := fun p hp => by
    obtain ⟨key, hkey⟩ := hk p hp
    obtain ⟨x, _, hx, _⟩ := Maps.keyOf_str Try.underlying9 hkey
    exact ⟨x, hx⟩
  refine ⟨l.map (fun p => match p.1 with | .string b => b | _ => []), ?_, ?_, fun b => ?_⟩
  · rw [List.nodup_iff_pairwise_ne, List.pairwise_map]
    refine List.Pairwise.imp_of_mem (fun {p q} hp hq hne e => ?_) hap
    obtain ⟨b, hb⟩ := hstr p hp
    obtain ⟨c, hc⟩ := hstr q hq
    rw [hb, hc] at e
    simp only at e
    exact hne (by rw [hb, hc, e])
  · rw [size_eq, List.length_map]
  · rw [has_eq, List.any_eq_true, List.mem_map]
    constructor
    · rintro ⟨p, hp, rfl⟩
      obtain ⟨b, hb⟩ := hstr p hp
      refine ⟨p, hp, ?_⟩
      rw [hb]
      simp [Lit.sameKey]
    · rintro ⟨p, hp, hk⟩
      refine ⟨p, hp, ?_⟩
      have := WideAt.sameKey_eq hk
      rw [this]
theorem size_same {w : World} {b1 b2 n1 n2 : Nat} {D1 D2 : DataW Value} (h1 : w.ownsMap Try.prog 9 Rv b1 n1 D1) (h2 : w.ownsMap Try.prog 9 Rv b2 n2 D2) (h : ∀ b, has D1 (.string b) = true ↔ has D2 (.string b) = true) : size D1 = size D2 := by
  obtain ⟨k1, a1, e1, m1⟩ := map_keys h1
  obtain ⟨k2, a2, e2, m2⟩ := map_keys h2
  have := nodup_length a1 (m := k2) (fun x hx => (m2 x).2 ((h x).1 ((m1 x).1 hx)))
  have := nodup_length a2 (m := k1) (fun x hx => (m1 x).2 ((h x).2 ((m2 x).1 hx)))
  omega
theorem has_back {w : World} {b1 b2 n1 n2 : Nat} {D1 D2 : DataW Value} (h1 : w.ownsMap Try.prog 9 Rv b1 n1 D1) (h2 : w.ownsMap Try.prog 9 Rv b2 n2 D2) (hs : size D1 = size D2) (h : ∀ b, has D1 (.string b) = true → has D2 (.string b) = true) : ∀ b, has D2 (.string b) = true → has D1 (.string b) = true := by
  obtain ⟨k1, a1, e1, m1⟩ := map_keys h1
  obtain ⟨k2, a2, e2, m2⟩ := map_keys h2
  intro b hb
  exact (m1 b).1 (nodup_back a1 a2 (fun x hx => (m2 x).2 (h x ((m1 x).1 hx))) (by omega) b ((m2 b).2 hb))
end Go.Proofs.Ytmahigfamgbhfaa
