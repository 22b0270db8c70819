/- Frames, over lists of numbers below 256: what a record's frame is, and what is read of any bytes. No program is named here. -/
import Derived.Test.YtmlpneiadkngaaaDoorCrcBur
namespace Go.Proofs.YtmlpneiadkngaaaDoor.Fr

/-- the number that stands behind the mark -/
def num (bs : List Nat) : Nat := 256 * bs[1]?.getD 0 + bs[2]?.getD 0
/-- what is amiss with the first three bytes -/
def lcode (bs : List Nat) : Nat := if bs.length = 0 then 6 else if bs[0]?.getD 0 ≠ 197 then 3 else if bs.length < 3 then 4 else if num bs = 0 then 3 else 0
/-- what is amiss with the first frame -/
def code (bs : List Nat) : Nat := if lcode bs ≠ 0 then lcode bs else if bs.length < 7 + num bs then 4 else if Crc.whole ((bs.drop 1).take (6 + num bs)) = true then 0 else 5
/-- its record -/
def rec (bs : List Nat) : List Nat := (bs.drop 3).take (num bs)
/-- what is amiss, if there should be just one frame -/
def ocode (bs : List Nat) : Nat := if code bs ≠ 0 then code bs else if 7 + num bs < bs.length then 3 else 0
/-- what is summed up -/
def body (p : List Nat) : List Nat := p.length / 256 :: p.length % 256 :: p
/-- a record's frame -/
def put (p : List Nat) : List Nat := 197 :: (body p ++ Crc.four (Crc.of (body p)))

theorem four_length (n : Nat) : (Crc.four n).length = 4 := rfl
theorem four_lt (n : Nat) : ∀ x ∈ Crc.four n, x < 256 := by
  intro x hx
  simp [Crc.four] at hx
  omega
theorem put_length (p : List Nat) : (put p).length = p.length + 7 := by simp [put, body, four_length]
theorem body_lt (p : List Nat) (h : ∀ x ∈ p, x < 256) (hp : p.length ≤ 65535) : ∀ x ∈ body p, x < 256 := by
  intro x hx
  simp [body] at hx
  rcases hx with rfl | rfl | hx
  · omega
  · omega
  · exact h x hx
theorem put_lt (p : List Nat) (h : ∀ x ∈ p, x < 256) (hp : p.length ≤ 65535) : ∀ x ∈ put p, x < 256 := by
  intro x hx
  simp only [put, List.mem_cons, List.mem_append] at hx
  rcases hx with rfl | hx | hx
  · omega
  · exact body_lt p h hp x hx
  · exact four_lt _ x hx

theorem num_put (p l : List Nat) : num (put p ++ l) = p.length := by
  simp [num, put, body]
  omega
theorem rec_put (p l : List Nat) : rec (put p ++ l) = p := by
  unfold rec
  rw [num_put]
  simp [put, body]
theorem lcode_put (p l : List Nat) (h : 1 ≤ p.length) : lcode (put p ++ l) = 0 := by
  have hn := num_put p l
  have hl := put_length p
  unfold lcode
  rw [hn, if_neg (by simp [put]), if_neg (by simp [put]), if_neg (by rw [List.length_append]; omega), if_neg (by omega)]
theorem code_put (p l : List Nat) (h1 : 1 ≤ p.length) (h2 : p.length ≤ 65535) (hb : ∀ x ∈ p, x < 256) : code (put p ++ l) = 0 := by
  have hn := num_put p l
  have hl := put_length p
  unfold code
  rw [lcode_put p l h1, hn, if_neg (by simp), if_neg (by rw [List.length_append]; omega)]
  have e : ((put p ++ l).drop 1).take (6 + p.length) = body p ++ Crc.four (Crc.of (body p)) := by
    have : (put p ++ l).drop 1 = (body p ++ Crc.four (Crc.of (body p))) ++ l := by simp [put]
    rw [this, List.take_append_of_le_length (by simp [body, four_length]; omega), List.take_of_length_le (by simp [body, four_length]; omega)]
  rw [e, Crc.whole_sealed _ (body_lt p hb h2)]
  simp
theorem ocode_put (p l : List Nat) (h1 : 1 ≤ p.length) (h2 : p.length ≤ 65535) (hb : ∀ x ∈ p, x < 256) : ocode (put p ++ l) = if l = [] then 0 else 3 := by
  unfold ocode
  rw [code_put p l h1 h2 hb, num_put, List.length_append, put_length, if_neg (by simp)]
  cases l with
  | nil => simp; omega
  | cons x l => simp; omega
/-- a frame that is cut off -/
theorem code_torn (p l : List Nat) (c : Nat) (h1 : 1 ≤ p.length) (hc : c < p.length + 7) : code ((put p ++ l).take c) = if c = 0 then 6 else 4 := by
  have hl := put_length p
  have hlen : ((put p ++ l).take c).length = c := by rw [List.length_take, List.length_append]; omega
  by_cases h0 : c = 0
  · subst h0
    simp [code, lcode]
  · have hb0 : ((put p ++ l).take c)[0]?.getD 0 = 197 := by
      rw [List.getElem?_take_of_lt (by omega)]
      simp [put]
    by_cases h3 : c < 3
    · simp only [code, lcode, hlen, hb0, if_neg h0, if_pos h3]
      simp
    · have hn : num ((put p ++ l).take c) = p.length := by
        rw [← num_put p l]
        unfold num
        rw [List.getElem?_take_of_lt (by omega), List.getElem?_take_of_lt (by omega)]
      have hp : p.length ≠ 0 := by omega
      have hcc : c < 7 + p.length := by omega
      simp only [code, lcode, hlen, hb0, if_neg h0, if_neg h3, hn, if_neg hp, if_pos hcc]
      simp

/-- where the first k frames end -/
def ends (bs : List Nat) : Nat → Nat
  | 0 => 0
  | k + 1 => ends bs k + (7 + num (bs.drop (ends bs k)))
/-- their records -/
def recs (bs : List Nat) : Nat → List (List Nat)
  | 0 => []
  | k + 1 => recs bs k ++ [rec (bs.drop (ends bs k))]
/-- the first k frames are whole -/
def Good (bs : List Nat) (k : Nat) : Prop := ∀ j, j < k → code (bs.drop (ends bs j)) = 0
/-- .. and the next one is not -/
def Stop (bs : List Nat) (k : Nat) : Prop := Good bs k ∧ code (bs.drop (ends bs k)) ≠ 0

theorem Stop.same {bs : List Nat} {j k : Nat} (h1 : Stop bs j) (h2 : Stop bs k) : j = k := by
  rcases Nat.lt_trichotomy j k with h | h | h
  · exact absurd (h2.1 j h) h1.2
  · exact h
  · exact absurd (h1.1 k h) h2.2
theorem code_size (bs : List Nat) (h : code bs = 0) : 7 + num bs ≤ bs.length ∧ 1 ≤ num bs := by
  unfold code at h
  by_cases h1 : lcode bs ≠ 0
  · rw [if_pos h1] at h; exact absurd h h1
  · rw [if_neg h1] at h
    by_cases h2 : bs.length < 7 + num bs
    · rw [if_pos h2] at h; cases h
    · refine ⟨by omega, ?_⟩
      have h3 : lcode bs = 0 := by simpa using h1
      unfold lcode at h3
      by_cases a1 : bs.length = 0
      · rw [if_pos a1] at h3; cases h3
      · rw [if_neg a1] at h3
        by_cases a2 : bs[0]?.getD 0 ≠ 197
        · rw [if_pos a2] at h3; cases h3
        · rw [if_neg a2] at h3
          by_cases a3 : bs.length < 3
          · rw [if_pos a3] at h3; cases h3
          · rw [if_neg a3] at h3
            by_cases a4 : num bs = 0
            · rw [if_pos a4] at h3; cases h3
            · omega
theorem rec_length (bs : List Nat) (h : code bs = 0) : (rec bs).length = num bs := by
  have := code_size bs h
  simp [rec]
  omega
theorem ends_le (bs : List Nat) (k : Nat) (h : Good bs k) : ends bs k ≤ bs.length ∧ 8 * k ≤ ends bs k := by
  induction k with
  | zero => simp [ends]
  | succ k ih =>
    have h1 := ih (fun j hj => h j (by omega))
    have h2 := code_size _ (h k (by omega))
    rw [List.length_drop] at h2
    simp only [ends]
    omega
theorem recs_length (bs : List Nat) (k : Nat) : (recs bs k).length = k := by
  induction k with
  | zero => rfl
  | succ k ih => simp [recs, ih]
end Go.Proofs.YtmlpneiadkngaaaDoor.Fr
