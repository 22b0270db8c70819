/- A frame of which some bits within 32 are turned is not opened. No program is named here. -/
import Derived.Test.YtiemgdclhjdmlaaDoorFrB
namespace Go.Proofs.YtiemgdclhjdmlaaDoor

theorem mul256_xor (a b : Nat) : 2 ^ 8 * (a ^^^ b) = 2 ^ 8 * a ^^^ 2 ^ 8 * b := by
  have := Nat.shiftLeft_xor_distrib (a := a) (b := b) (i := 8)
  simp only [Nat.shiftLeft_eq] at this
  rw [Nat.mul_comm, this, Nat.mul_comm a, Nat.mul_comm b]

theorem xor_left_cancel {x a b : Nat} (h : x ^^^ a = x ^^^ b) : a = b := by
  have := congrArg (x ^^^ ·) h
  simpa [← Nat.xor_assoc] using this

theorem turned (p c : List Nat) (fr b : Nat) (hp1 : 1 ≤ p.length) (hp2 : p.length ≤ 65535) (hb : ∀ x ∈ p, x < 256) (hc : ∀ x ∈ c, x < 256) (hl : c.length = (Fr.put p).length)
    (hlow : Crc.low c = Crc.low (Fr.put p) ^^^ 2 ^ fr * b) (hfr : fr + 32 ≤ 8 * (Fr.put p).length) (hb0 : b ≠ 0) (hb2 : b < 4294967296) : Fr.ocode c ≠ 0 := by
  intro h
  obtain ⟨h0, h1, h2⟩ := ocode_zero h
  obtain ⟨hlc, _, hwh⟩ := code_zero h0
  obtain ⟨h3, h197, _⟩ := lcode_zero hlc
  cases c with
  | nil => simp at h3
  | cons y c =>
    have hy : y = 197 := by simpa using h197
    subst hy
    have hpl := Fr.put_length p
    have htl : (Fr.body p ++ Crc.four (Crc.of (Fr.body p))).length = p.length + 6 := by simp [Fr.body, Fr.four_length]
    have hbody := Fr.body_lt p hb hp2
    have hws := Crc.whole_sealed (Fr.body p) hbody
    have htb : ∀ x ∈ Fr.body p ++ Crc.four (Crc.of (Fr.body p)), x < 256 := by
      intro x hx
      rcases List.mem_append.1 hx with hx | hx
      · exact hbody x hx
      · exact Fr.four_lt _ x hx
    have hcb : ∀ x ∈ c, x < 256 := fun x hx => hc x (by simp [hx])
    have hcl : c.length = p.length + 6 := by simp only [List.length_cons] at hl; omega
    have hwc : Crc.whole c = true := by
      rw [List.drop_one, List.tail_cons, List.take_of_length_le (by simp only [List.length_cons] at h1; omega)] at hwh
      exact hwh
    rw [hpl] at hfr
    unfold Fr.put at hlow
    generalize Fr.body p ++ Crc.four (Crc.of (Fr.body p)) = t at hlow hws htb htl
    rw [Crc.low_cons _ _ (by omega), Crc.low_cons _ _ (by omega), Nat.xor_assoc] at hlow
    have hx := xor_left_cancel hlow
    have hX : 2 ^ fr * b = 2 ^ 8 * (Crc.low c ^^^ Crc.low t) := by
      rw [mul256_xor, hx, Nat.xor_comm (2 ^ 8 * Crc.low t ^^^ _), ← Nat.xor_assoc, Nat.xor_self, Nat.zero_xor]
    have fin : ∀ fr' b', b' ≠ 0 → b' < 4294967296 → fr' + 32 ≤ 8 * t.length → Crc.low c ^^^ Crc.low t = 2 ^ fr' * b' → False := by
      intro fr' b' hb0' hb2' hfr' he
      have he2 : Crc.low c = Crc.low t ^^^ 2 ^ fr' * b' := by
        rw [← he, Nat.xor_comm (Crc.low c), ← Nat.xor_assoc, Nat.xor_self, Nat.zero_xor]
      have := Crc.burst t c fr' b' htb hcb (by omega) he2 hfr' hb0' hb2' hws
      rw [this] at hwc
      cases hwc
    by_cases h8 : 8 ≤ fr
    · refine fin (fr - 8) b hb0 hb2 (by omega) ?_
      have e : 2 ^ fr = 2 ^ 8 * 2 ^ (fr - 8) := by rw [← Nat.pow_add]; congr 1; omega
      rw [e, Nat.mul_assoc] at hX
      exact (Nat.eq_of_mul_eq_mul_left (by omega) hX).symm
    · have e : 2 ^ 8 = 2 ^ fr * 2 ^ (8 - fr) := by rw [← Nat.pow_add]; congr 1; omega
      rw [e, Nat.mul_assoc] at hX
      have hbY := Nat.eq_of_mul_eq_mul_left (Nat.two_pow_pos fr) hX
      refine fin 0 (Crc.low c ^^^ Crc.low t) ?_ ?_ (by omega) (by simp)
      · intro hz
        rw [hz] at hbY
        simp at hbY
        exact hb0 hbY
      · have : Crc.low c ^^^ Crc.low t ≤ b := by
          rw [hbY]
          exact Nat.le_mul_of_pos_left _ (Nat.two_pow_pos _)
        omega
end Go.Proofs.YtiemgdclhjdmlaaDoor
