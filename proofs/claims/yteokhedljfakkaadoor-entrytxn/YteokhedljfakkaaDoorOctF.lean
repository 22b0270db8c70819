/- What the law's own answers for numbers and texts do, and a reader's text: contracts. -/
import Derived.Test.YteokhedljfakkaaDoorOctE
namespace Go.Proofs.YteokhedljfakkaaDoor
open Go.RowKit

set_option maxRecDepth 100000 in
theorem ref_put_any (f : Nat) : ∀ (n : Nat) (w : World), f ≤ 9 → n < 2 ^ (7 * f + 1) →
    Calls Tryd.prog 39 #[.int .u64 n] w fun e w' => ∃ g N cap, e = .returned (.slice (some ⟨g, 0, none⟩) N cap) ∧ Own w' w.heap.size (.slice (some ⟨g, 0, none⟩) N cap) (Oct.putF f n) ∧ Below w.heap.size w w' := by
  induction f with
  | zero =>
    intro n w _ hn
    simp at hn
    have hs : n < 128 := by omega
    have hm : (n : Int) % 256 = (n : Int) := by omega
    go_enter Tryd.func39, Tryd.ntmps39
    go_wp2
    go_ret
    exact ⟨_, _, _, rfl, Own.new w w.heap.size (Nat.le_refl _) #[.int .u8 (n : Nat)] [n] rfl (by simp; omega) (by simp [maxLen]), (Below.refl _ _).alloc (Nat.le_refl _) _⟩
  | succ f ih =>
    intro n w hf hn
    by_cases hs : n < 128
    · rw [Oct.putF_small _ _ hs]
      clear hn
      have hm : (n : Int) % 256 = (n : Int) := by omega
      go_enter Tryd.func39, Tryd.ntmps39
      go_wp2
      go_ret
      exact ⟨_, _, _, rfl, Own.new w w.heap.size (Nat.le_refl _) #[.int .u8 (n : Nat)] [n] rfl (by simp; omega) (by simp [maxLen]), (Below.refl _ _).alloc (Nat.le_refl _) _⟩
    · rw [Oct.putF_big _ _ (by omega)]
      have h64 : n < 18446744073709551616 := Nat.lt_of_lt_of_le hn (Nat.le_trans (Nat.pow_le_pow_right (by omega) (show 7 * (f + 1) + 1 ≤ 64 by omega)) (by omega))
      obtain ⟨q, hq⟩ : ∃ q, q = n / 128 := ⟨_, rfl⟩
      obtain ⟨b, hb⟩ : ∃ b, b = n % 128 + 128 := ⟨_, rfl⟩
      have hnx := Oct.next_lt f n hn
      rw [← hq] at hnx
      rw [← hq, ← hb]
      have IH : Hid (∀ w, _) := fun w => ih q w (by omega) hnx
      have hpl := Oct.putF_len f q
      have hbx : b < 256 := by omega
      have hqi : (n : Int) / 128 = (q : Int) := by omega
      have hri : (n : Int) % 128 + 128 = (b : Int) := by omega
      clear hn ih hnx hq hb
      have ho0 := Own.new w w.heap.size (Nat.le_refl _) #[.int .u8 (b : Nat)] [b] rfl (by simpa using hbx) (by simp [maxLen])
      have hb0 : Below w.heap.size w (w.alloc (.cells #[.int .u8 (b : Nat)] 5)) := (Below.refl _ _).alloc (Nat.le_refl _) _
      have HQ : Hid (_ = _) := hqi
      have HR : Hid (_ = _) := hri
      clear hqi hri
      go_enter Tryd.func39, Tryd.ntmps39
      go_wp2_with fail
      rw [HQ.out, HR.out]
      generalize w.alloc (.cells #[.int .u8 (b : Nat)] 5) = W at ho0 hb0 ⊢
      refine (IH.out W).mono ?_
      rintro e w2 ⟨g, N, cap, rfl, ho2, hb2⟩
      have r2 := ho2.row
      have hlr := r2.1
      have hbW : Below w.heap.size w w2 := hb0.trans (hb2.mono hb0.size)
      have ho1 := ho0.later hb2
      have hbd : [b].length + N ≤ 140737488355328 := by simp; omega
      have hNN : ([b] ++ Oct.putF f q).length = N + 1 := by simp; omega
      clear ho0 hb0 hb2 ho2
      go_wp2_with (at_builtin; refine wp_append_at rfl _ _ rfl w.heap.size _ _ rfl ho1 _ _ _ _ rfl r2 (by simp) hbd hbW.size (N + 1) hNN (by omega) ?_; intro g3 cap3 w3 hg3 hc3 hm3 ho3 hb3)
      go_ret
      exact ⟨_, _, _, rfl, ho3, hbW.trans hb3⟩

theorem ref_text_any (ts : List Nat) (w : World) (ht : ∀ x ∈ ts, x < 256) (hl : ts.length ≤ 100000) :
    Calls Tryd.prog 38 #[.string (str ts)] w fun e w' => ∃ a n cap, e = .returned (.slice a n cap) ∧ Row w' a n (Oct.put ts.length ++ ts) ∧ n ≤ 10 + ts.length ∧ Below w.heap.size w w' := by
  have hsz := str_size ts
  have hpl := Oct.putF_len 9 ts.length
  go_enter Tryd.func38, Tryd.ntmps38
  go_wp2_with fail
  refine (ref_put_any 9 ts.length _ (by omega) (by omega)).mono ?_
  rintro e w1 ⟨g, N, cap, rfl, ho1, hb1⟩
  have hbd : (Oct.putF 9 ts.length).length + ts.length ≤ 140737488355328 := by omega
  have HPL : Hid (_ ∧ _) := hpl
  clear hpl
  go_wp2_with (at_builtin; refine wp_append_str rfl _ _ rfl w.heap.size _ _ rfl ho1 ts rfl ht hbd hb1.size ?_; intro v3 w3 ho3 hb3)
  obtain ⟨a3, n3, cap3, rfl, r3, _⟩ := ho3.slice
  go_ret
  exact ⟨_, _, _, rfl, r3, by have h4 := r3.1; have h5 := HPL.out; rw [List.length_append] at h4; omega, hb1.trans hb3⟩

theorem take_bad (g : Nat) (n : Int) (w : World) (h : Rd w g none) :
    Calls Tryd.prog 79 #[.pointer (some ⟨g, 0, none⟩), .int .i64 n] w fun e w' => e = .returned (.slice none 0 0) ∧ w' = w := by
  have hbad := bad_any g _ w h
  go_enter Tryd.func79, Tryd.ntmps79
  go_wp2_with fail
  refine hbad.mono ?_
  rintro e w' ⟨rfl, hw⟩
  subst w'
  go_wp2
  go_ret
  exact ⟨rfl, rfl⟩

theorem atMostI_any (g : Nat) (most : Int) (st : Option (List Nat)) (w : World) (h : Rd w g st) (hm : most ≤ 9223372036854775807) :
    Calls Tryd.prog 77 #[.pointer (some ⟨g, 0, none⟩), .int .i64 most] w fun e w' => e = .returned (.int .u64 ((Oct.atMostI most st).1 : Nat)) ∧ Rd w' g (Oct.atMostI most st).2 ∧ Only g w w' := by
  by_cases h0 : most < 0
  · have e : Oct.atMostI most st = (0, none) := by simp [Oct.atMostI, h0]
    rw [e]
    clear e
    go_enter Tryd.func77, Tryd.ntmps77
    go_wp2_with fail
    refine (spoil_any g _ w h).mono ?_
    rintro e w2 ⟨rfl, h2, h3⟩
    go_wp2
    go_ret
    exact ⟨rfl, h2, h3⟩
  · obtain ⟨m, rfl⟩ : ∃ m : Nat, most = (m : Int) := ⟨most.toNat, by omega⟩
    have e : Oct.atMostI (m : Int) st = Oct.atMost m st := by simp [Oct.atMostI, h0]
    rw [e]
    clear e
    have hc := atMost_any g m st w h
    generalize Oct.atMost m st = R at hc ⊢
    go_enter Tryd.func77, Tryd.ntmps77
    go_wp2_with fail
    refine hc.mono ?_
    rintro e w2 ⟨rfl, h2, h3⟩
    go_wp2
    go_ret
    exact ⟨rfl, h2, h3⟩
end Go.Proofs.YteokhedljfakkaaDoor
