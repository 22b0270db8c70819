/- What follows of changes: they stay right, their head was a member, those that stay keep their order. -/
import Derived.Test.YtgpjplpfjghcgaaCoU
namespace Go.Proofs.Ytgpjplpfjghcgaa
open Go Go.RowKit
set_option linter.unusedVariables false
set_option linter.unusedSimpArgs false

theorem okUpto_sub {a b : List Int} (h : a.Sublist b) (hb : okUpto b = true) : okUpto a = true := by
  simp only [okUpto, Bool.and_eq_true, List.all_eq_true, decide_eq_true_eq] at hb ⊢
  exact ⟨fun x hx => hb.1 x (h.subset hx), hb.2.sublist h⟩
theorem chOk_of {l : List Mb} (h : okUpto (nodes l) = true) (hh : hd l = true) : chOk (nodes l) = true := by
  have : nodes l ≠ [] := by
    cases l with
    | nil => simp [hd] at hh
    | cons m t => simp [nodes]
  simp [chOk, h, this]
theorem chOk_ok {l : List Int} (h : chOk l = true) : okUpto l = true ∧ l.Nodup := by
  simp only [chOk, Bool.and_eq_true] at h
  have h2 := h.1
  simp only [okUpto, Bool.and_eq_true, decide_eq_true_eq] at h2
  exact ⟨h.1, h2.2⟩
theorem leOk_sub {le : Int} {a b : List Int} (h : ∀ x ∈ a, x ∈ b) (hb : leOk le b = true) : leOk le a = true := by
  simp only [leOk, Bool.or_eq_true, Bool.and_eq_true, decide_eq_true_eq, Bool.not_eq_true', decide_eq_false_iff_not] at hb ⊢
  rcases hb with hb | hb
  · exact .inl hb
  · exact .inr ⟨hb.1, fun hx => hb.2 (h _ hx)⟩
theorem leOk_none (l : List Int) : leOk (-1) l = true := by simp [leOk]
theorem nodes_erase (l : List Mb) (k : Nat) : nodes (l.eraseIdx k) = (nodes l).eraseIdx k := (erase_map _ _ _).symm
theorem nodes_set {l : List Mb} {k : Nat} {x : Int} (f : Bool) (h : (nodes l)[k]? = some x) : nodes (l.set k (x, f)) = nodes l := by
  have h1 := set_mi (f := f) h
  have : ∀ l : List Mb, nodes l = (l.map mi).map (fun v => match v with | .int _ n => n | _ => 0) := by
    intro l
    simp [nodes, mi]
  rw [this, this l, h1]

/-- what a change without an error is -/
structure Heir (c c' : Cf) : Prop where
  right : rightB c' = true
  head : ∀ y, (nodes c'.l)[0]? = some y → y ∈ nodes c.l
  order : (nodes c'.l).Pairwise (fun a b => 0 ≤ plc (nodes c.l) a → 0 ≤ plc (nodes c.l) b → plc (nodes c.l) a ≤ plc (nodes c.l) b)
  few : c'.l.length ≤ 8
theorem order_self {l : List Int} (h : l.Nodup) : l.Pairwise (fun a b => 0 ≤ plc l a → 0 ≤ plc l b → plc l a ≤ plc l b) := by
  rw [List.pairwise_iff_getElem]
  intro i j hi hj hij _ _
  have at_ : ∀ k (hk : k < l.length), plc l l[k] = k := fun k hk => plc_hit k (List.getElem?_eq_getElem hk) (fun m hm e => by
    have hm2 : m < l.length := by omega
    rw [List.getElem?_eq_getElem hm2] at e
    simp only [Option.some.injEq] at e
    exact List.pairwise_iff_getElem.1 h m k hm2 hk hm e)
  rw [at_ i hi, at_ j hj]
  omega
theorem Heir.of_sub {c c' : Cf} (h : rightB c = true) (hr : rightB c' = true) (hs : (nodes c'.l).Sublist (nodes c.l)) : Heir c c' := by
  refine ⟨hr, fun y hy => hs.subset (List.mem_of_getElem? hy), (order_self (chOk_ok (right_true h).ch).2).sublist hs, (right_true hr).few.2⟩
theorem heir_remove {c c' : Cf} {x : Int} {e : Nat} (h : rightB c = true) (he : removeC c x e = (c', 0)) : Heir c c' := by
  have R := right_true h
  unfold removeC at he
  split at he
  · simp at he
  next hm =>
    have hmay := may_right (by simpa using hm : mayB c x e = true)
    split at he
    · simp only [Prod.mk.injEq, and_true] at he
      subst he
      exact Heir.of_sub h (right_mk (by have := hmay.2.2; simp only; omega) R.sh0 R.sh4 R.ch R.hd (leOk_none _)) (List.Sublist.refl _)
    · split at he
      · simp at he
      · split at he
        · simp at he
        next hh =>
          simp only [Prod.mk.injEq, and_true] at he
          subst he
          have hs : (nodes (c.l.eraseIdx (placeC c x).toNat)).Sublist (nodes c.l) := by rw [nodes_erase]; exact List.eraseIdx_sublist _ _
          have hh' : hd (c.l.eraseIdx (placeC c x).toNat) = true := by simpa using hh
          exact Heir.of_sub h (right_mk (by have := hmay.2.2; simp only; omega) R.sh0 R.sh4 (chOk_of (okUpto_sub hs (chOk_ok R.ch).1) hh') hh' (leOk_sub (fun y hy => hs.subset hy) R.le)) hs
theorem heir_learn {c c' : Cf} {x : Int} {e : Nat} (h : rightB c = true) (he : learnC c x e = (c', 0)) : Heir c c' := by
  have R := right_true h
  unfold learnC at he
  split at he
  · simp at he
  next hm =>
    have hmay := may_right (by simpa using hm : mayB c x e = true)
    split at he
    · simp at he
    next hh =>
      split at he
      · simp only [Prod.mk.injEq, and_true] at he
        subst he
        have hx : x ∉ nodes c.l := by
          have h2 : hasB c x = false := by simpa using hh
          simp only [hasB, Bool.or_eq_false_iff, decide_eq_false_iff_not] at h2
          have h3 := h2.2
          simp only [placeC, h, if_true] at h3
          exact plc_neg.1 (by omega)
        exact Heir.of_sub h (right_mk (by have := hmay.2.2; simp only; omega) R.sh0 R.sh4 R.ch R.hd (by simp [leOk, hmay.2.1, hx])) (List.Sublist.refl _)
      · simp at he
theorem heir_promote {c c' : Cf} {x : Int} {e : Nat} (h : rightB c = true) (he : promoteC c x e = (c', 0)) : Heir c c' := by
  have R := right_true h
  unfold promoteC at he
  split at he
  · simp at he
  next hm =>
    have hmay := may_right (by simpa using hm : mayB c x e = true)
    split at he
    · simp at he
    next hh =>
      simp only [Prod.mk.injEq, and_true] at he
      subst he
      have hle : c.le = x := by
        have h2 : learnsB c x = true := by simpa using hh
        simp only [learnsB, Bool.and_eq_true, decide_eq_true_eq] at h2
        exact h2.2
      have hx : x ∉ nodes c.l := by
        have h3 := R.le
        have h4 := srv_true.1 hmay.2.1
        simp only [leOk, hle, Bool.or_eq_true, decide_eq_true_eq, Bool.and_eq_true, Bool.not_eq_true', decide_eq_false_iff_not] at h3
        rcases h3 with h3 | h3
        · omega
        · exact h3.2
      have hn : nodes (c.l ++ [(x, false)]) = nodes c.l ++ [x] := by simp [nodes]
      have hh2 : hd (c.l ++ [(x, false)]) = true := by
        have := R.hd
        cases hl : c.l with
        | nil => rw [hl] at this; simp [hd] at this
        | cons m t => rw [hl] at this; simpa [hd] using this
      have hok : okUpto (nodes (c.l ++ [(x, false)])) = true := by rw [hn, okUpto_snoc, (chOk_ok R.ch).1, hmay.2.1]; simp [hx]
      have hr : rightB ⟨e, c.sh, c.l ++ [(x, false)], -1⟩ = true := right_mk (by have := hmay.2.2; simp only; omega) R.sh0 R.sh4 (chOk_of hok hh2) hh2 (leOk_none _)
      refine ⟨hr, fun y hy => ?_, ?_, (right_true hr).few.2⟩
      · simp only [hn] at hy
        have h1 := R.few.1
        rw [List.getElem?_append_left (by rw [nodes_length]; omega)] at hy
        exact List.mem_of_getElem? hy
      · simp only [hn]
        rw [List.pairwise_append]
        refine ⟨order_self (chOk_ok R.ch).2, List.pairwise_singleton _ _, fun a ha b hb _ h2 => ?_⟩
        simp only [List.mem_cons, List.not_mem_nil, or_false] at hb
        subst hb
        rw [plc_miss hx] at h2
        omega
theorem heir_mark {c c' : Cf} {x : Int} (h : rightB c = true) (he : markC c x = (c', 0)) : Heir c c' := by
  have R := right_true h
  unfold markC at he
  split at he
  · simp at he
  · split at he
    · simp at he
    next hp =>
      split at he
      · simp at he
      · simp only [Prod.mk.injEq, and_true] at he
        subst he
        rcases place_cases (c := c) x with hneg | ⟨k, hk, hpk, hat, _⟩
        · exact absurd hneg hp
        · rw [hpk, Int.toNat_natCast]
          have hn := nodes_set true hat
          have hh : hd (c.l.set k (x, true)) = true := by
            have := R.hd
            cases hl : c.l with
            | nil => rw [hl] at this; simp [hd] at this
            | cons m t =>
              rw [hl] at this
              cases k with
              | zero => rfl
              | succ k => simpa [hd] using this
          refine Heir.of_sub h (right_mk R.ep R.sh0 R.sh4 (by simp only; rw [hn]; exact R.ch) hh (by simp only; rw [hn]; exact R.le)) (by simp only; rw [hn]; exact List.Sublist.refl _)
theorem heir_turn {c c' : Cf} {kd x : Int} {e : Nat} (h : rightB c = true) (he : turnC c kd x e = (c', 0)) : Heir c c' := by
  unfold turnC at he
  split at he
  · exact heir_remove h he
  · split at he
    · exact heir_learn h he
    · split at he
      · exact heir_promote h he
      · exact heir_mark h he
theorem turn_ep {c : Cf} {kd x : Int} {e : Nat} (h : c.ep ≤ e) : (turnC c kd x e).1.ep ≤ e := by
  unfold turnC removeC learnC promoteC markC
  repeat' split
  all_goals simp [zeroC, h]

/-- number k of a row of integers that came in -/
theorem IsRow.at64 {w : World} {b off len cap : Nat} {zs : List Int} (h : IsRow .i64 w (some ⟨b, off, none⟩) len cap zs) (k : Nat) (hk : k < len) : w.cell? ⟨b, off + k, none⟩ = some (.int .i64 (zs.getD k 0)) := by
  rcases h with ⟨h, _⟩ | ⟨x, hx, h1, h2, h3, h4, h5⟩
  · cases h
  · simp only [Option.some.injEq] at hx
    subst hx
    have := h4 k (by omega)
    rw [Addr.add_lit] at this
    exact this
/-- the configuration behind the first k changes: it is right, its epoch small; it lies in block p -/
def Hs (w wr : World) (p k : Nat) : Prop := Below w.heap.size w wr ∧ ∃ (c : Cf) (a : Option Addr) (c1 : Nat) (b : Option Addr) (c2 : Nat), rightB c = true ∧ c.ep ≤ 1000000 + k ∧
  wr.heap[p]? = some (.cells (carr c.ep c.sh (.slice a c.l.length c1) (.slice b c.l.length c2) c.le) 29) ∧ Cfo wr 0 (.agg (carr c.ep c.sh (.slice a c.l.length c1) (.slice b c.l.length c2) c.le)) c
end Go.Proofs.Ytgpjplpfjghcgaa
