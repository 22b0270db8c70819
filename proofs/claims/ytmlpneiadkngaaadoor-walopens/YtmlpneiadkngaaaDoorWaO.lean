/- What opening makes of any two areas, and that it makes no more of it the second time: plain lists. -/
import Derived.Test.YtmlpneiadkngaaaDoorWaM
import Derived.Test.YtmlpneiadkngaaaDoorWaN
namespace Go.Proofs.YtmlpneiadkngaaaDoor
open Go.RowKit
set_option linter.unusedVariables false

theorem Fr.num_take (l : List Nat) (m : Nat) (hm : 3 ≤ m) : Fr.num (l.take m) = Fr.num l := by
  unfold Fr.num
  rw [List.getElem?_take_of_lt (by omega), List.getElem?_take_of_lt (by omega)]
theorem Fr.code_take (l : List Nat) (m : Nat) (h : Fr.code l = 0) (hm : 7 + Fr.num l ≤ m) : Fr.code (l.take m) = 0 ∧ Fr.rec (l.take m) = Fr.rec l := by
  obtain ⟨h1, h2, h3⟩ := code_zero h
  obtain ⟨h4, h5, h6⟩ := lcode_zero h1
  have hn := Fr.num_take l m (by omega)
  have hl : (l.take m).length = min m l.length := List.length_take
  have h0 : (l.take m)[0]?.getD 0 = 197 := by rw [List.getElem?_take_of_lt (by omega)]; exact h5
  have hlc : Fr.lcode (l.take m) = 0 := by
    unfold Fr.lcode
    rw [if_neg (by omega), if_neg (by rw [h0]; simp), if_neg (by omega), if_neg (by rw [hn]; exact h6)]
  have hd : ((l.take m).drop 1).take (6 + Fr.num l) = (l.drop 1).take (6 + Fr.num l) := by
    rw [List.drop_take, List.take_take, Nat.min_eq_left (by omega)]
  constructor
  · unfold Fr.code
    rw [if_neg (by rw [hlc]; simp), if_neg (by rw [hn]; omega), hn, hd, if_pos h3]
  · unfold Fr.rec
    rw [hn, List.drop_take, List.take_take, Nat.min_eq_left (by omega)]

theorem Fr.ends_mono (bs : List Nat) : ∀ i j, i ≤ j → Fr.ends bs i ≤ Fr.ends bs j := by
  intro i j h
  induction h with
  | refl => exact Nat.le_refl _
  | step _ ih => simp only [Fr.ends]; omega
theorem Fr.stop_take (bs : List Nat) (k : Nat) (h : Fr.Stop bs k) :
    (∀ j, j ≤ k → Fr.ends (bs.take (Fr.ends bs k)) j = Fr.ends bs j ∧ Fr.recs (bs.take (Fr.ends bs k)) j = Fr.recs bs j) ∧ Fr.Stop (bs.take (Fr.ends bs k)) k ∧ Fr.ends bs k ≤ bs.length := by
  have step : ∀ j, j < k → Fr.code ((bs.take (Fr.ends bs k)).drop (Fr.ends bs j)) = 0 ∧ Fr.num ((bs.take (Fr.ends bs k)).drop (Fr.ends bs j)) = Fr.num (bs.drop (Fr.ends bs j)) ∧ Fr.rec ((bs.take (Fr.ends bs k)).drop (Fr.ends bs j)) = Fr.rec (bs.drop (Fr.ends bs j)) := by
    intro j hj
    have h1 := Fr.ends_mono bs (j + 1) k hj
    have e1 : Fr.ends bs (j + 1) = Fr.ends bs j + (7 + Fr.num (bs.drop (Fr.ends bs j))) := rfl
    rw [List.drop_take]
    obtain ⟨a, b⟩ := Fr.code_take (bs.drop (Fr.ends bs j)) (Fr.ends bs k - Fr.ends bs j) (h.1 j hj) (by omega)
    exact ⟨a, Fr.num_take _ _ (by omega), b⟩
  have both : ∀ j, j ≤ k → Fr.ends (bs.take (Fr.ends bs k)) j = Fr.ends bs j ∧ Fr.recs (bs.take (Fr.ends bs k)) j = Fr.recs bs j := by
    intro j
    induction j with
    | zero => intro _; exact ⟨rfl, rfl⟩
    | succ j ih =>
      intro hj
      obtain ⟨i1, i2⟩ := ih (by omega)
      obtain ⟨s1, s2, s3⟩ := step j (by omega)
      constructor
      · show Fr.ends (bs.take (Fr.ends bs k)) j + (7 + Fr.num ((bs.take (Fr.ends bs k)).drop (Fr.ends (bs.take (Fr.ends bs k)) j))) = Fr.ends bs j + (7 + Fr.num (bs.drop (Fr.ends bs j)))
        rw [i1, s2]
      · show Fr.recs (bs.take (Fr.ends bs k)) j ++ [Fr.rec ((bs.take (Fr.ends bs k)).drop (Fr.ends (bs.take (Fr.ends bs k)) j))] = Fr.recs bs j ++ [Fr.rec (bs.drop (Fr.ends bs j))]
        rw [i1, i2, s3]
  have hle : Fr.ends bs k ≤ bs.length := by
    cases k with
    | zero => exact Nat.zero_le _
    | succ j =>
      have h1 := Fr.code_size _ (h.1 j (by omega))
      have e1 : Fr.ends bs (j + 1) = Fr.ends bs j + (7 + Fr.num (bs.drop (Fr.ends bs j))) := rfl
      rw [List.length_drop] at h1
      omega
  refine ⟨both, ⟨fun j hj => ?_, ?_⟩, hle⟩
  · rw [(both j (by omega)).1]
    exact (step j hj).1
  · rw [(both k (Nat.le_refl _)).1, List.drop_take, Nat.sub_self, List.take_zero]
    decide

theorem Wa.whole_end {bs : List Nat} {k gn en : Nat} {rs : List (List Nat)} (h : Wa.whole bs k = some (gn, rs, en)) : en = Fr.ends bs k := by
  unfold Wa.whole at h
  split at h
  · cases h
  · split at h
    · cases h
    · split at h
      · simp only [Option.some.injEq, Prod.mk.injEq] at h
        exact h.2.2.symm
      · cases h
theorem Wa.whole_take {bs : List Nat} {k gn en : Nat} {rs : List (List Nat)} (hst : Fr.Stop bs k) (h : Wa.whole bs k = some (gn, rs, en)) : Wa.whole (bs.take en) k = some (gn, rs, en) ∧ Fr.Stop (bs.take en) k ∧ en ≤ bs.length := by
  have he := Wa.whole_end h
  subst he
  obtain ⟨h1, h2, h3⟩ := Fr.stop_take bs k hst
  refine ⟨?_, h2, h3⟩
  have h4 : Wa.whole (bs.take (Fr.ends bs k)) k = Wa.whole bs k := by
    unfold Wa.whole
    rw [(h1 k (Nat.le_refl _)).1, (h1 k (Nat.le_refl _)).2]
  rw [h4]
  exact h

theorem DS.mend0 (r s0 s1 en : Nat) (b0 b1 : List Nat) (hs : s0 ≤ b0.length) (he : en ≤ b0.length) : (⟨r, b0, s0, b1, s1, false, none⟩ : DS).mend (0 : Nat) b0.length en = (0, ⟨r, b0.take en, en, b1, s1, false, none⟩) := by
  unfold DS.mend
  by_cases h : en < b0.length
  · rw [if_pos h]
    simp [DS.cut, DS.keep, DS.write, DS.sets, DS.get]
    omega
  · rw [if_neg h]
    obtain rfl : en = b0.length := by omega
    by_cases h2 : s0 < b0.length
    · rw [if_pos (by simpa [DS.sureOf, DS.sure] using h2)]
      simp [DS.sync, DS.keep, DS.write, DS.sets, DS.get]
    · rw [if_neg (by simpa [DS.sureOf, DS.sure] using h2)]
      obtain rfl : s0 = b0.length := by omega
      simp
theorem DS.mend1 (r s0 s1 en : Nat) (b0 b1 : List Nat) (hs : s1 ≤ b1.length) (he : en ≤ b1.length) : (⟨r, b0, s0, b1, s1, false, none⟩ : DS).mend (1 : Nat) b1.length en = (0, ⟨r, b0, s0, b1.take en, en, false, none⟩) := by
  unfold DS.mend
  by_cases h : en < b1.length
  · rw [if_pos h]
    simp [DS.cut, DS.keep, DS.write, DS.sets, DS.get]
    omega
  · rw [if_neg h]
    obtain rfl : en = b1.length := by omega
    by_cases h2 : s1 < b1.length
    · rw [if_pos (by simpa [DS.sureOf, DS.sure] using h2)]
      simp [DS.sync, DS.keep, DS.write, DS.sets, DS.get]
    · rw [if_neg (by simpa [DS.sureOf, DS.sure] using h2)]
      obtain rfl : s1 = b1.length := by omega
      simp
theorem DS.wipe0 (r s0 s1 : Nat) (b0 b1 : List Nat) (hs : s0 ≤ b0.length) : (⟨r, b0, s0, b1, s1, false, none⟩ : DS).wipe 0 b0.length = (0, ⟨r, [], 0, b1, s1, false, none⟩) := by
  unfold DS.wipe
  by_cases h : b0.length = 0
  · rw [if_pos h]
    have hb := List.length_eq_zero_iff.1 h
    subst hb
    obtain rfl : s0 = 0 := by simpa using hs
    rfl
  · rw [if_neg h]
    simp [DS.cut, DS.keep, DS.write, DS.sets, DS.get]
theorem DS.wipe1 (r s0 s1 : Nat) (b0 b1 : List Nat) (hs : s1 ≤ b1.length) : (⟨r, b0, s0, b1, s1, false, none⟩ : DS).wipe 1 b1.length = (0, ⟨r, b0, s0, [], 0, false, none⟩) := by
  unfold DS.wipe
  by_cases h : b1.length = 0
  · rw [if_pos h]
    have hb := List.length_eq_zero_iff.1 h
    subst hb
    obtain rfl : s1 = 0 := by simpa using hs
    rfl
  · rw [if_neg h]
    simp [DS.cut, DS.keep, DS.write, DS.sets, DS.get]

theorem first_one : Wa.first 1 = Dx1.b0 := by kernel_rfl
theorem DS.anew0 (r s0 s1 : Nat) (b0 b1 : List Nat) (hs : s0 ≤ b0.length) (hr : b1.length + 10 ≤ r) : (⟨r, b0, s0, b1, s1, false, none⟩ : DS).anew (0 : Nat) b0.length = (0, ⟨r, Dx1.b0, 10, b1, s1, false, none⟩) := by
  unfold DS.anew
  have hw := DS.wipe0 r s0 s1 b0 b1 hs
  have hw2 : (⟨r, b0, s0, b1, s1, false, none⟩ : DS).wipe ((0 : Nat) : Int) b0.length = (0, ⟨r, [], 0, b1, s1, false, none⟩) := hw
  rw [hw2]
  simp only [ne_eq, not_true_eq_false, if_false]
  have hl : Dx1.b0.length = 10 := rfl
  unfold DS.begin
  rw [first_one]
  have hf : ¬ ((⟨r, [], 0, b1, s1, false, none⟩ : DS).free < Dx1.b0.length) := by rw [hl]; simp [DS.free]; omega
  have ha : (⟨r, [], 0, b1, s1, false, none⟩ : DS).append ((0 : Nat) : Int) Dx1.b0 = (0, ⟨r, Dx1.b0, 0, b1, s1, false, none⟩) := by
    unfold DS.append
    rw [if_neg (by simp), if_neg hf]
    simp [DS.write, DS.sets, DS.get, DS.sure]
  have hb : (⟨r, Dx1.b0, 0, b1, s1, false, none⟩ : DS).sync ((0 : Nat) : Int) = (0, ⟨r, Dx1.b0, 10, b1, s1, false, none⟩) := by
    simp only [DS.sync, DS.keep, DS.write, DS.sets, DS.get]
    rfl
  rw [if_neg hf, ha]
  simp only [ne_eq, not_true_eq_false, if_false]
  exact hb

/-- a disk that holds one log alone, all of it whole and sure -/
def One (D : DS) (A gen : Nat) (rs : List (List Nat)) : Prop :=
  ∃ (B : List Nat) (k : Nat), Fr.Stop B k ∧ Wa.whole B k = some (gen, rs, B.length) ∧ B ≠ [] ∧ B.length ≤ 1000 ∧ rs.length ≤ 1000 ∧
    ((A = 0 ∧ D = ⟨1000, B, B.length, [], 0, false, none⟩) ∨ (A = 1 ∧ D = ⟨1000, [], 0, B, B.length, false, none⟩))

theorem Fr.ends_ge (bs : List Nat) : ∀ k, 7 * k ≤ Fr.ends bs k
  | 0 => Nat.le_refl _
  | k + 1 => by have := Fr.ends_ge bs k; simp only [Fr.ends]; omega
theorem Wa.whole_len {bs : List Nat} {k gn en : Nat} {rs : List (List Nat)} (h : Wa.whole bs k = some (gn, rs, en)) : rs.length + 1 = k := by
  have hl := Fr.recs_length bs k
  unfold Wa.whole at h
  split at h
  · cases h
  · rename_i hd tl heq
    rw [heq] at hl
    split at h
    · cases h
    · split at h
      · simp only [Option.some.injEq, Prod.mk.injEq] at h
        rw [← h.2.1]
        simpa using hl
      · cases h
/-- an area that is whole, cut to its last whole frame -/
theorem One.of {bs : List Nat} {k gn en : Nat} {rs : List (List Nat)} (hst : Fr.Stop bs k) (h : Wa.whole bs k = some (gn, rs, en)) (hb : bs.length ≤ 1000) :
    Fr.Stop (bs.take en) k ∧ Wa.whole (bs.take en) k = some (gn, rs, (bs.take en).length) ∧ bs.take en ≠ [] ∧ (bs.take en).length ≤ 1000 ∧ rs.length ≤ 1000 ∧ (bs.take en).length = en ∧ en ≤ bs.length := by
  obtain ⟨h1, h2, h3⟩ := Wa.whole_take hst h
  have hl : (bs.take en).length = en := by rw [List.length_take]; omega
  have he := Wa.whole_end h
  have hg := Fr.ends_ge bs k
  have hr := Wa.whole_len h
  refine ⟨h2, by rw [hl]; exact h1, ?_, by omega, by omega, hl, h3⟩
  intro e
  rw [e] at hl
  simp at hl
  omega
theorem One.first : One ⟨1000, Dx1.b0, 10, [], 0, false, none⟩ 0 1 [] := by
  refine ⟨Dx1.b0, 1, ⟨fun j hj => ?_, by decide +kernel⟩, by decide +kernel, by decide, by decide, by simp, .inl ⟨rfl, rfl⟩⟩
  obtain rfl : j = 0 := by omega
  decide +kernel

/-- what opening makes of any two areas -/
theorem opened_one (w : World) (base : Nat) (b0 b1 : List Nat) (en0 gn0 n0 en1 gn1 n1 cap0 cap1 : Nat) (wh0 wh1 : Bool) (a0 a1 : Option Addr) (h0 : b0.length ≤ 200) (h1 : b1.length ≤ 200)
    (s0 : Sees w base b0 en0 wh0 gn0 a0 n0) (s1 : Sees w base b1 en1 wh1 gn1 a1 n1) :
    ∃ D rs a cap, (⟨1000, b0, 0, b1, 0, false, none⟩ : DS).opened b0.length en0 wh0 gn0 b1.length en1 wh1 gn1 = (0, D) ∧ One D (Wa.newest wh0 wh1 gn0 gn1) (Wa.genOf wh0 gn0 wh1 gn1) rs ∧
      (if Wa.newest wh0 wh1 gn0 gn1 = 0 then Value.slice a0 n0 cap0 else .slice a1 n1 cap1) = .slice a rs.length cap ∧ Recb w base a rs.length rs := by
  obtain ⟨k0, hk0, m0⟩ := s0
  obtain ⟨k1, hk1, m1⟩ := s1
  rcases Wa.newest_or wh0 wh1 gn0 gn1 with hn | ⟨hn, rfl⟩
  · unfold DS.opened Wa.genOf
    rw [if_pos hn, if_pos hn, if_pos hn, hn]
    cases hw : Wa.whole b0 k0 with
    | none =>
      rw [hw] at m0
      obtain ⟨rfl, rfl, rfl, rfl, rfl⟩ := m0
      refine ⟨_, [], none, cap0, ?_, One.first, rfl, rfl, .inl rfl⟩
      unfold DS.opens
      simp only [Bool.false_eq_true, if_false]
      rw [DS.anew0 1000 0 0 b0 b1 (by simp) (by omega)]
      simp only [ne_eq, not_true_eq_false, if_false]
      exact DS.wipe1 1000 10 0 Dx1.b0 b1 (by simp)
    | some q =>
      obtain ⟨gn, rs, en⟩ := q
      rw [hw] at m0
      obtain ⟨rfl, rfl, rfl, rfl, hrc⟩ := m0
      obtain ⟨o1, o2, o3, o4, o5, o6, o7⟩ := One.of hk0 hw (by omega)
      refine ⟨⟨1000, b0.take en0, en0, [], 0, false, none⟩, rs, a0, cap0, ?_, ⟨_, k0, o1, o2, o3, o4, o5, .inl ⟨rfl, by rw [o6]⟩⟩, rfl, hrc⟩
      unfold DS.opens
      simp only [if_true]
      rw [DS.mend0 1000 0 0 en0 b0 b1 (by simp) o7]
      simp only [ne_eq, not_true_eq_false, if_false]
      exact DS.wipe1 1000 en0 0 (b0.take en0) b1 (by simp)
  · unfold DS.opened Wa.genOf
    rw [if_neg (by omega), if_neg (by omega), if_neg (by omega), hn]
    cases hw : Wa.whole b1 k1 with
    | none =>
      rw [hw] at m1
      cases m1.1
    | some q =>
      obtain ⟨gn, rs, en⟩ := q
      rw [hw] at m1
      obtain ⟨-, rfl, rfl, rfl, hrc⟩ := m1
      obtain ⟨o1, o2, o3, o4, o5, o6, o7⟩ := One.of hk1 hw (by omega)
      refine ⟨⟨1000, [], 0, b1.take en1, en1, false, none⟩, rs, a1, cap1, ?_, ⟨_, k1, o1, o2, o3, o4, o5, .inr ⟨rfl, by rw [o6]⟩⟩, rfl, hrc⟩
      unfold DS.opens
      simp only [if_true]
      rw [DS.mend1 1000 0 0 en1 b0 b1 (by simp) o7]
      simp only [ne_eq, not_true_eq_false, if_false]
      exact DS.wipe0 1000 0 en1 b0 (b1.take en1) (by simp)

/-- .. and opened again it is the same -/
theorem opened_again (w : World) (base : Nat) (D : DS) (A gen : Nat) (rs : List (List Nat)) (hD : One D A gen rs) (en0 gn0 n0 en1 gn1 n1 cap0 cap1 : Nat) (wh0 wh1 : Bool) (a0 a1 : Option Addr)
    (s0 : Sees w base D.b0 en0 wh0 gn0 a0 n0) (s1 : Sees w base D.b1 en1 wh1 gn1 a1 n1) :
    D.opened D.b0.length en0 wh0 gn0 D.b1.length en1 wh1 gn1 = (0, D) ∧ Wa.newest wh0 wh1 gn0 gn1 = A ∧ Wa.genOf wh0 gn0 wh1 gn1 = gen ∧
      ∃ a cap, (if Wa.newest wh0 wh1 gn0 gn1 = 0 then Value.slice a0 n0 cap0 else .slice a1 n1 cap1) = .slice a rs.length cap ∧ Recb w base a rs.length rs := by
  obtain ⟨B, k, hk, hw, hne, hB, hrl, h | h⟩ := hD
  · obtain ⟨rfl, rfl⟩ := h
    obtain ⟨rfl, rfl, rfl, rfl, rfl⟩ := s1.none
    obtain ⟨j, hj, m⟩ := s0
    obtain rfl := hj.same hk
    dsimp only at m
    rw [hw] at m
    obtain ⟨rfl, rfl, rfl, rfl, hrc⟩ := m
    refine ⟨?_, rfl, rfl, a0, cap0, rfl, hrc⟩
    show DS.opens _ 0 true B.length B.length 0 = _
    unfold DS.opens
    simp only [if_true]
    rw [DS.mend0 1000 B.length 0 B.length B [] (Nat.le_refl _) (Nat.le_refl _)]
    simp only [ne_eq, not_true_eq_false, if_false, List.take_length]
    rfl
  · obtain ⟨rfl, rfl⟩ := h
    obtain ⟨rfl, rfl, rfl, rfl, rfl⟩ := s0.none
    obtain ⟨j, hj, m⟩ := s1
    obtain rfl := hj.same hk
    dsimp only at m
    rw [hw] at m
    obtain ⟨rfl, rfl, rfl, rfl, hrc⟩ := m
    refine ⟨?_, rfl, rfl, a1, cap1, rfl, hrc⟩
    show DS.opens _ 1 true B.length B.length 0 = _
    unfold DS.opens
    simp only [if_true]
    rw [DS.mend1 1000 0 B.length B.length [] B (Nat.le_refl _) (Nat.le_refl _)]
    simp only [ne_eq, not_true_eq_false, if_false, List.take_length]
    rfl
end Go.Proofs.YtmlpneiadkngaaaDoor
