/- Frames, one behind the other, cut off anywhere. No program is named here. -/
import Derived.Test.YtiemgdclhjdmlaaDoorFrMath
namespace Go.Proofs.YtiemgdclhjdmlaaDoor.Fr

/-- the frames of some records, one behind the other -/
def cat (ps : List (List Nat)) : List Nat := (ps.map put).flatten
/-- where the first i of them end -/
def upTo (ps : List (List Nat)) (i : Nat) : Nat := (cat (ps.take i)).length
/-- records that may be -/
def Fine (ps : List (List Nat)) : Prop := ∀ p ∈ ps, 1 ≤ p.length ∧ p.length ≤ 65535 ∧ ∀ x ∈ p, x < 256

theorem cat_snoc (ps : List (List Nat)) (q : List Nat) : cat (ps ++ [q]) = cat ps ++ put q := by simp [cat]
theorem cat_cons (p : List Nat) (ps : List (List Nat)) : cat (p :: ps) = put p ++ cat ps := by simp [cat]
theorem cat_append (l m : List (List Nat)) : cat (l ++ m) = cat l ++ cat m := by simp [cat]
theorem cat_split (ps : List (List Nat)) (i : Nat) : cat ps = cat (ps.take i) ++ cat (ps.drop i) := by
  rw [← cat_append, List.take_append_drop]
theorem upTo_zero (ps : List (List Nat)) : upTo ps 0 = 0 := by simp [upTo, cat]
theorem upTo_succ (ps : List (List Nat)) (i : Nat) (h : i < ps.length) : upTo ps (i + 1) = upTo ps i + (ps[i].length + 7) := by
  unfold upTo
  rw [List.take_succ_eq_append_getElem h, cat_snoc, List.length_append, put_length]
theorem upTo_all (ps : List (List Nat)) : upTo ps ps.length = (cat ps).length := by unfold upTo; rw [List.take_length]
theorem upTo_snoc (ps : List (List Nat)) (q : List Nat) (i : Nat) (h : i ≤ ps.length) : upTo (ps ++ [q]) i = upTo ps i := by
  unfold upTo
  rw [List.take_append_of_le_length h]
theorem upTo_mono (ps : List (List Nat)) (i j : Nat) (h : i ≤ j) (hj : j ≤ ps.length) : upTo ps i ≤ upTo ps j := by
  induction j with
  | zero => have : i = 0 := by omega
            subst this; exact Nat.le_refl _
  | succ j ih =>
    rcases Nat.lt_or_ge i (j + 1) with h1 | h1
    · have := ih (by omega) (by omega)
      rw [upTo_succ ps j (by omega)]
      omega
    · have : i = j + 1 := by omega
      subst this; exact Nat.le_refl _
theorem drop_cat (ps : List (List Nat)) (i : Nat) : (cat ps).drop (upTo ps i) = cat (ps.drop i) := by
  conv => lhs; rw [cat_split ps i]
  unfold upTo
  rw [List.drop_left]

/-- how many of them are whole -/
theorem whole_count (ps : List (List Nat)) (cut : Nat) : ∃ N, N ≤ ps.length ∧ upTo ps N ≤ cut ∧ (N < ps.length → cut < upTo ps (N + 1)) := by
  have key : ∀ k, k ≤ ps.length → ∃ N, N ≤ k ∧ upTo ps N ≤ cut ∧ (N < k → cut < upTo ps (N + 1)) := by
    intro k
    induction k with
    | zero => intro _; exact ⟨0, Nat.le_refl _, by rw [upTo_zero]; omega, by omega⟩
    | succ k ih =>
      intro hk
      obtain ⟨N, h1, h2, h3⟩ := ih (by omega)
      by_cases hN : N < k
      · exact ⟨N, by omega, h2, fun _ => h3 hN⟩
      · have : N = k := by omega
        subst this
        by_cases h4 : upTo ps (N + 1) ≤ cut
        · exact ⟨N + 1, Nat.le_refl _, h4, by omega⟩
        · exact ⟨N, by omega, h2, fun _ => by omega⟩
  exact key ps.length (Nat.le_refl _)

theorem torn_at (ps : List (List Nat)) (hf : Fine ps) (cut N : Nat) (hN : N ≤ ps.length) (h1 : upTo ps N ≤ cut) :
    ∀ j, j ≤ N → ends ((cat ps).take cut) j = upTo ps j ∧ recs ((cat ps).take cut) j = ps.take j ∧ Good ((cat ps).take cut) j := by
  intro j
  induction j with
  | zero => intro _; exact ⟨by rw [upTo_zero]; rfl, by simp [recs], fun i hi => by omega⟩
  | succ j ih =>
    intro hj
    obtain ⟨he, hr, hg⟩ := ih (by omega)
    have hjl : j < ps.length := by omega
    have hp := hf ps[j] (List.getElem_mem hjl)
    have hup := upTo_succ ps j hjl
    have hmon := upTo_mono ps (j + 1) N hj hN
    have hd : ((cat ps).take cut).drop (upTo ps j) = put ps[j] ++ (cat (ps.drop (j + 1))).take (cut - upTo ps j - (ps[j].length + 7)) := by
      rw [List.drop_take, drop_cat, List.drop_eq_getElem_cons hjl, cat_cons, List.take_append, put_length, List.take_of_length_le (by rw [put_length]; omega)]
    have hc : code (((cat ps).take cut).drop (ends ((cat ps).take cut) j)) = 0 := by
      rw [he, hd]
      exact code_put _ _ hp.1 hp.2.1 hp.2.2
    refine ⟨?_, ?_, ?_⟩
    · simp only [ends]
      rw [he, hd, num_put, hup]
      omega
    · simp only [recs]
      rw [he, hd, rec_put, hr, List.take_succ_eq_append_getElem hjl]
    · intro i hi
      rcases Nat.lt_or_ge i j with h | h
      · exact hg i h
      · have : i = j := by omega
        subst this
        exact hc

theorem torn (ps : List (List Nat)) (hf : Fine ps) (cut N : Nat) (hc : cut ≤ (cat ps).length) (hN : N ≤ ps.length) (h1 : upTo ps N ≤ cut) (h2 : N < ps.length → cut < upTo ps (N + 1)) :
    ends ((cat ps).take cut) N = upTo ps N ∧ recs ((cat ps).take cut) N = ps.take N ∧ Stop ((cat ps).take cut) N ∧ code (((cat ps).take cut).drop (upTo ps N)) = if upTo ps N = cut then 6 else 4 := by
  obtain ⟨he, hr, hg⟩ := torn_at ps hf cut N hN h1 N (Nat.le_refl _)
  have hcode : code (((cat ps).take cut).drop (upTo ps N)) = if upTo ps N = cut then 6 else 4 := by
    rw [List.drop_take, drop_cat]
    by_cases hl : N < ps.length
    · have hp := hf ps[N] (List.getElem_mem hl)
      have hup := upTo_succ ps N hl
      have h3 := h2 hl
      rw [List.drop_eq_getElem_cons hl, cat_cons, code_torn _ _ _ hp.1 (by omega)]
      by_cases h4 : upTo ps N = cut
      · rw [if_pos h4, if_pos (by omega)]
      · rw [if_neg h4, if_neg (by omega)]
    · have hNl : N = ps.length := by omega
      subst hNl
      rw [upTo_all] at h1 ⊢
      have : cut = (cat ps).length := by omega
      rw [if_pos this.symm, List.drop_length]
      simp [cat, code, lcode]
  refine ⟨he, hr, ⟨hg, ?_⟩, hcode⟩
  rw [he, hcode]
  split <;> omega
theorem cat_lt (ps : List (List Nat)) (hf : Fine ps) : ∀ x ∈ cat ps, x < 256 := by
  intro x hx
  simp only [cat, List.mem_flatten, List.mem_map] at hx
  obtain ⟨l, ⟨p, hp, rfl⟩, hx⟩ := hx
  exact put_lt p (hf p hp).2.2 (hf p hp).2.1 x hx
end Go.Proofs.YtiemgdclhjdmlaaDoor.Fr
