/- A configuration read of any bytes, and read of its own. -/
import Derived.Test.YtgpjplpfjghcgaaCpK
import Derived.Test.YtgpjplpfjghcgaaCpI
namespace Go.Proofs.Ytgpjplpfjghcgaa
open Go Go.RowKit
set_option linter.unusedVariables false
set_option linter.unusedSimpArgs false

theorem read_ok (g : Nat) (bs : List Nat) (w : World) (h : Rd w g (some bs)) (hok : readOk (some bs) = true) :
    ∃ dd t, bs = bytesC dd ++ t ∧ rightB dd = true ∧ dd.ep < 18446744073709551616 ∧
      Calls Try.prog 23 #[.pointer (some ⟨g, 0, none⟩)] w fun e w' => (∃ v, e = .returned (.tuple #[v, .bool true]) ∧ Cfo w' w.heap.size v dd) ∧ Rd w' g (some t) ∧ Only g w w' := by
  have h1 := read_any g (some bs) w h
  rw [hok] at h1
  simp only [if_true] at h1
  have h2 := hok
  simp only [readOk, Bool.and_eq_true] at h2
  obtain ⟨t, ht⟩ := Option.isSome_iff_exists.1 h2.1
  rw [ht] at h1
  refine ⟨readC (some bs), t, readC_own (h.bytes bs rfl) ht, h2.2, ?_, h1⟩
  have := (Oct.atMost_lt 18446744073709551615 (some bs) (h.bytes)).2
  exact this
theorem read_no (g : Nat) (bs : List Nat) (w : World) (h : Rd w g (some bs)) (hok : readOk (some bs) = false) :
    Calls Try.prog 23 #[.pointer (some ⟨g, 0, none⟩)] w fun e w' => (∃ v, e = .returned (.tuple #[v, .bool false]) ∧ Cfo w' w.heap.size v zeroC) ∧ Only g w w' := by
  have h1 := read_any g (some bs) w h
  rw [hok] at h1
  simp only [Bool.false_eq_true, if_false] at h1
  exact h1.mono fun e w' hh => ⟨hh.1, hh.2.2⟩
theorem read_put (g : Nat) (c : Cf) (w : World) (h : Rd w g (some (bytesC c))) (hr : rightB c = true) (he : c.ep < 18446744073709551616) :
    Calls Try.prog 23 #[.pointer (some ⟨g, 0, none⟩)] w fun e w' => (∃ v, e = .returned (.tuple #[v, .bool true]) ∧ Cfo w' w.heap.size v c) ∧ Rd w' g (some []) ∧ Only g w w' := by
  obtain ⟨h1, h2⟩ := readC_put c hr he []
  rw [List.append_nil] at h1 h2
  have h3 := read_any g _ w h
  have h4 : readOk (some (bytesC c)) = true := by simp [readOk, h2, h1, hr]
  rw [h4, h1, h2] at h3
  simp only [if_true] at h3
  exact h3
theorem zero_cfr (w : World) : Cfr w (.agg #[.int .u64 0, .int .i64 0, .slice none 0 0, .slice none 0 0, .int .i64 0]) zeroC :=
  ⟨none, 0, none, 0, rfl, ⟨by simp [zeroC], .inl rfl⟩, ⟨by simp [zeroC], .inl rfl⟩, by simp [zeroC]⟩
theorem bytesC_pos (c : Cf) : 0 < (bytesC c).length := by
  have := (Oct.putF_len 9 c.ep).1
  simp only [bytesC, headB, List.length_append]
  unfold Oct.put
  omega
theorem membersB_len (l : List Mb) : (membersB l).length ≤ 20 * l.length := by
  induction l with
  | nil => simp [membersB]
  | cons m q ih =>
    have h1 := (Oct.putF_len 9 m.1.toNat).2
    have h2 := (Oct.putF_len 9 (bit m.2)).2
    have h8 : (membersB (m :: q)).length = (Oct.put m.1.toNat).length + (Oct.put (bit m.2)).length + (membersB q).length := by simp [membersB]; omega
    rw [h8, List.length_cons]
    unfold Oct.put
    omega
theorem bytesC_len (c : Cf) (hr : rightB c = true) : (bytesC c).length ≤ 1000 := by
  have h0 := (right_true hr).few
  have h1 := membersB_len c.l
  have h2 := (Oct.putF_len 9 c.ep).2
  have h3 := (Oct.putF_len 9 c.sh.toNat).2
  have h4 := (Oct.putF_len 9 c.l.length).2
  have h5 := (Oct.putF_len 9 (learnerB c.le)).2
  simp only [bytesC, headB, List.length_append]
  unfold Oct.put
  omega
theorem not_ok_nil : readOk (some []) = false := by
  cases h : readOk (some []) with
  | false => rfl
  | true =>
    simp only [readOk, Bool.and_eq_true] at h
    obtain ⟨t, ht⟩ := Option.isSome_iff_exists.1 h.1
    have h1 := readC_own (bs := []) (by simp) ht
    have h2 := bytesC_pos (readC (some []))
    have h3 := congrArg List.length h1
    simp at h3
    omega
end Go.Proofs.Ytgpjplpfjghcgaa
