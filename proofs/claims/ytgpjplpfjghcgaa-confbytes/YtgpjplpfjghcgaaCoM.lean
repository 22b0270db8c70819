/- Configurations: plain mathematics. -/
import Init
namespace Go.Proofs.Ytgpjplpfjghcgaa
set_option linter.unusedVariables false
set_option linter.unusedSimpArgs false

abbrev Mb := Int × Bool
/-- a configuration: its epoch, its shard, its members and whether each is full, its learner -/
structure Cf where
  ep : Nat
  sh : Int
  l : List Mb
  le : Int
def nodes (l : List Mb) : List Int := l.map (·.1)
theorem nodes_length (l : List Mb) : (nodes l).length = l.length := by simp [nodes]
theorem nodes_append (a b : List Mb) : nodes (a ++ b) = nodes a ++ nodes b := by simp [nodes]

def srv (x : Int) : Bool := decide (0 ≤ x) && decide (x < 8)
theorem srv_true {x : Int} : srv x = true ↔ 0 ≤ x ∧ x < 8 := by simp [srv]
theorem srv_false {x : Int} : srv x = false ↔ ¬ (0 ≤ x ∧ x < 8) := by
  rw [← srv_true]; simp

/-- the place of x in l, from 0 on; -1: it is not there -/
def plc : List Int → Int → Int
  | [], _ => -1
  | y :: l, x => if y = x then 0 else if plc l x < 0 then -1 else plc l x + 1
theorem plc_miss {l : List Int} {x : Int} (h : x ∉ l) : plc l x = -1 := by
  induction l with
  | nil => rfl
  | cons y l ih =>
    simp only [List.mem_cons, not_or] at h
    simp [plc, ih h.2, Ne.symm h.1]
theorem plc_hit {l : List Int} {x : Int} (k : Nat) (h : l[k]? = some x) (hn : ∀ j : Nat, j < k → l[j]? ≠ some x) : plc l x = k := by
  induction l generalizing k with
  | nil => simp at h
  | cons y l ih =>
    cases k with
    | zero => simp at h; simp [plc, h]
    | succ k =>
      have h0 := hn 0 (by omega)
      have hy : y ≠ x := by simpa using h0
      have := ih k (by simpa using h) (fun j hj => by have := hn (j + 1) (by omega); simpa using this)
      simp only [plc, hy, if_false, this]
      rw [if_neg (by omega)]
      omega
theorem plc_mem {l : List Int} {x : Int} (h : x ∈ l) : ∃ k : Nat, k < l.length ∧ plc l x = k ∧ l[k]? = some x ∧ ∀ j : Nat, j < k → l[j]? ≠ some x := by
  induction l with
  | nil => simp at h
  | cons y l ih =>
    by_cases hy : y = x
    · exact ⟨0, by simp, by simp [plc, hy], by simp [hy], by simp⟩
    · have hx : x ∈ l := by
        rcases List.mem_cons.1 h with h | h
        · exact absurd h.symm hy
        · exact h
      obtain ⟨k, h1, h2, h3, h4⟩ := ih hx
      refine ⟨k + 1, by simp; omega, ?_, by simpa using h3, fun j hj => ?_⟩
      · simp only [plc, hy, if_false, h2]
        rw [if_neg (by omega)]
        omega
      · cases j with
        | zero => simpa using hy
        | succ j => simpa using h4 j (by omega)
theorem plc_neg {l : List Int} {x : Int} : plc l x < 0 ↔ x ∉ l := by
  constructor
  · intro h hx
    obtain ⟨k, _, h2, _⟩ := plc_mem hx
    omega
  · intro h
    rw [plc_miss h]
    omega
theorem plc_bd (l : List Int) (x : Int) : -1 ≤ plc l x ∧ plc l x < l.length := by
  by_cases h : x ∈ l
  · obtain ⟨k, h1, h2, _⟩ := plc_mem h
    omega
  · rw [plc_miss h]; omega
theorem plc_none {l : List Int} {x : Int} (h : ∀ j : Nat, j < l.length → l[j]? ≠ some x) : plc l x = -1 := by
  refine plc_miss fun hx => ?_
  obtain ⟨k, h1, _, h3, _⟩ := plc_mem hx
  exact h k h1 h3

/-- servers, one at least, none twice -/
def okUpto (l : List Int) : Bool := l.all srv && decide l.Nodup
def chOk (l : List Int) : Bool := okUpto l && decide (l ≠ [])
theorem okUpto_nil : okUpto [] = true := rfl
theorem okUpto_snoc (l : List Int) (x : Int) : okUpto (l ++ [x]) = (okUpto l && srv x && !decide (x ∈ l)) := by
  unfold okUpto
  rw [Bool.eq_iff_iff]
  simp only [List.all_append, List.all_cons, List.all_nil, Bool.and_true, Bool.and_eq_true, decide_eq_true_eq, Bool.not_eq_true', decide_eq_false_iff_not, List.nodup_append]
  simp
  constructor
  · rintro ⟨⟨h1, h2⟩, h3, h4⟩
    exact ⟨⟨⟨h1, h3⟩, h2⟩, fun hx => h4 _ hx rfl⟩
  · rintro ⟨⟨⟨h1, h3⟩, h2⟩, h4⟩
    exact ⟨⟨h1, h2⟩, h3, fun a ha e => h4 (e ▸ ha)⟩
theorem okUpto_take {l : List Int} (k : Nat) (h : okUpto l = true) : okUpto (l.take k) = true := by
  unfold okUpto at *
  simp only [Bool.and_eq_true, decide_eq_true_eq, List.all_eq_true] at *
  exact ⟨fun x hx => h.1 x (List.mem_of_mem_take hx), h.2.sublist (List.take_sublist k l)⟩
theorem okUpto_bad {l : List Int} {k : Nat} {x : Int} (h : l[k]? = some x) (hb : srv x = false ∨ x ∈ l.take k) : okUpto l = false := by
  cases e : okUpto l with
  | false => rfl
  | true =>
    have := okUpto_take (k + 1) e
    have hk := (List.getElem?_eq_some_iff.1 h)
    rw [List.take_succ_eq_append_getElem hk.1, hk.2, okUpto_snoc] at this
    simp only [Bool.and_eq_true, Bool.not_eq_true', decide_eq_false_iff_not] at this
    rcases hb with hb | hb
    · rw [hb] at this; simp at this
    · exact absurd hb this.2
theorem nodup_le : ∀ (l s : List Int), l.Nodup → (∀ x ∈ l, x ∈ s) → l.length ≤ s.length
  | [], s, _, _ => by simp
  | x :: l, s, h, hs => by
    have hx := hs x (by simp)
    have hn := List.nodup_cons.1 h
    have := nodup_le l (s.erase x) hn.2 (fun y hy => (List.mem_erase_of_ne (fun e : y = x => hn.1 (e ▸ hy))).2 (hs y (by simp [hy])))
    rw [List.length_erase_of_mem hx] at this
    have : 0 < s.length := List.length_pos_of_mem hx
    simp
    omega
theorem okUpto_le {l : List Int} (h : okUpto l = true) : l.length ≤ 8 := by
  unfold okUpto at h
  simp only [Bool.and_eq_true, decide_eq_true_eq, List.all_eq_true] at h
  refine nodup_le l [0, 1, 2, 3, 4, 5, 6, 7] h.2 (fun x hx => ?_)
  have := srv_true.1 (h.1 x hx)
  simp
  omega

def hd (l : List Mb) : Bool := match l with
  | [] => false
  | m :: _ => m.2
def leOk (le : Int) (l : List Int) : Bool := decide (le = -1) || (srv le && !decide (le ∈ l))
def rightB (c : Cf) : Bool := decide (0 < c.ep) && decide (0 ≤ c.sh) && decide (c.sh < 4) && chOk (nodes c.l) && hd c.l && leOk c.le (nodes c.l)
theorem right_mk {c : Cf} (h1 : 0 < c.ep) (h2 : 0 ≤ c.sh) (h3 : c.sh < 4) (h4 : chOk (nodes c.l) = true) (h5 : hd c.l = true) (h6 : leOk c.le (nodes c.l) = true) : rightB c = true := by
  simp [rightB, h1, h2, h3, h4, h5, h6]
structure Rt (c : Cf) : Prop where
  ep : 0 < c.ep
  sh0 : 0 ≤ c.sh
  sh4 : c.sh < 4
  ch : chOk (nodes c.l) = true
  hd : hd c.l = true
  le : leOk c.le (nodes c.l) = true
theorem right_true {c : Cf} (h : rightB c = true) : Rt c := by
  simp only [rightB, Bool.and_eq_true, decide_eq_true_eq] at h
  exact ⟨h.1.1.1.1.1, h.1.1.1.1.2, h.1.1.1.2, h.1.1.2, h.1.2, h.2⟩
theorem Rt.few {c : Cf} (h : Rt c) : 1 ≤ c.l.length ∧ c.l.length ≤ 8 := by
  have h1 := h.ch
  simp only [chOk, Bool.and_eq_true, decide_eq_true_eq] at h1
  have := okUpto_le h1.1
  rw [nodes_length] at this
  refine ⟨?_, this⟩
  cases e : c.l with
  | nil => rw [e] at h1; simp [nodes] at h1
  | cons => simp
/-- the server at place k; -1: there is none -/
def atC (c : Cf) (k : Int) : Int := if rightB c = true ∧ 0 ≤ k ∧ k < c.l.length then ((nodes c.l)[k.toNat]?).getD 0 else -1
def placeC (c : Cf) (x : Int) : Int := if rightB c = true then plc (nodes c.l) x else -1
def besideC (c : Cf) (x d : Int) : Int := if placeC c x < 0 then -1 else atC c (placeC c x + d)
def learnsB (c : Cf) (x : Int) : Bool := rightB c && srv x && decide (c.le = x)
def hasB (c : Cf) (x : Int) : Bool := learnsB c x || decide (0 ≤ placeC c x)
def mayB (c : Cf) (x : Int) (e : Nat) : Bool := rightB c && srv x && decide (c.ep < e)

def zeroC : Cf := ⟨0, 0, [], 0⟩
/-- what each change makes of a configuration, and the error's number -/
def removeC (c : Cf) (x : Int) (e : Nat) : Cf × Int :=
  if mayB c x e = false then (zeroC, 1)
  else if learnsB c x = true then (⟨e, c.sh, c.l, -1⟩, 0)
  else if placeC c x < 0 then (zeroC, 6)
  else if hd (c.l.eraseIdx (placeC c x).toNat) = false then (zeroC, 10)
  else (⟨e, c.sh, c.l.eraseIdx (placeC c x).toNat, c.le⟩, 0)
theorem place_cases {c : Cf} (x : Int) : placeC c x < 0 ∨ ∃ k : Nat, k < c.l.length ∧ placeC c x = k ∧ (nodes c.l)[k]? = some x ∧ ∀ j : Nat, j < k → (nodes c.l)[j]? ≠ some x := by
  unfold placeC
  split
  · by_cases h : x ∈ nodes c.l
    · obtain ⟨k, h1, h2, h3, h4⟩ := plc_mem h
      rw [nodes_length] at h1
      exact .inr ⟨k, h1, h2, h3, h4⟩
    · exact .inl (plc_neg.2 h)
  · exact .inl (by omega)
theorem may_right {c : Cf} {x : Int} {e : Nat} (h : mayB c x e = true) : Rt c ∧ srv x = true ∧ c.ep < e := by
  simp only [mayB, Bool.and_eq_true, decide_eq_true_eq] at h
  exact ⟨right_true h.1.1, h.1.2, h.2⟩
theorem hd_at (l : List Mb) : hd l = (l[0]?.map (·.2)).getD false := by cases l <;> rfl
end Go.Proofs.Ytgpjplpfjghcgaa
