/- The laws' own answer for a path: a contract. -/
import Derived.Test.YtiemgdclhjdmlaaDoorFaJ
namespace Go.Proofs.YtiemgdclhjdmlaaDoor
open Go.RowKit Go.Extern.Stop Go.Stop Go.Extern

theorem plen_take (ps : List ByteArray) (k : Nat) : plen (ps.take k) ≤ plen ps := by
  induction ps generalizing k with
  | nil => simp
  | cons p ps ih =>
    cases k with
    | zero => simp [plen]
    | succ k => have := ih k; simp [plen] at this ⊢; omega
theorem plen_rev (ps : List ByteArray) : plen ps.reverse = plen ps := by simp [plen, List.map_reverse, List.sum_reverse]

set_option maxRecDepth 100000 in
set_option maxHeartbeats 1000000 in
theorem refpath_any (g len cap : Nat) (ps : List ByteArray) (w : World) (hl : ps.length = len) (hm : len ≤ maxLen) (hp : plen ps ≤ 1000000)
    (hc : ∀ j x, ps[j]? = some x → w.cell? ⟨g, j, none⟩ = some (.string x)) :
    Calls Tryd.prog 17 #[.slice (some ⟨g, 0, none⟩) len cap] w fun e w' => e = .returned (.string (path ps.reverse)) ∧ w' = w := by
  unfold maxLen at hm
  have HC : Hid (∀ j x, ps[j]? = some x → w.cell? ⟨g, j, none⟩ = some (.string x)) := hc
  have HP : Hid (∀ k, (path (ps.reverse.take k)).size ≤ 1000000) := fun k => by
    have h1 := path_size (ps.reverse.take k)
    have h2 := plen_take ps.reverse k
    rw [plen_rev] at h2
    omega
  have hps := plen_rev ps
  have hlp : len ≤ 1000000 := by simp [plen] at hp; omega
  clear hc hp hps
  go_enter Tryd.func17, Tryd.ntmps17
  go_wp2
  go_loop [3, 4] (fun s i => ∃ (m : Nat), m ≤ len ∧ i = .int .i64 ((m : Int) - 1) ∧ s = .string (path (ps.reverse.take (len - m)))) (fun s i => (intOf i + 1).toNat)
  case atStart => exact ⟨len, Nat.le_refl _, rfl, by simp; rfl⟩
  case round =>
    obtain ⟨m, hk, rfl, rfl⟩ := hrel
    cases m with
    | succ m =>
      have hm1 : ((m + 1 : Nat) : Int) - 1 = (m : Int) := by omega
      rw [hm1]
      have hkl : m < ps.length := by omega
      have hc1 : w.cell? ⟨g, m, none⟩ = some (.string ps[m]) := HC.out _ _ (List.getElem?_eq_getElem hkl)
      have hget : ps.reverse[len - (m + 1)]'(by simp; omega) = ps[m] := by
        rw [List.getElem_reverse]
        congr 1
        omega
      have htake : ps.reverse.take (len - m) = ps.reverse.take (len - (m + 1)) ++ [ps[m]] := by
        rw [show len - m = len - (m + 1) + 1 by omega, List.take_succ_eq_append_getElem (by simp; omega), hget]
      have hsz := HP.out (len - (m + 1))
      have hsz1 := HP.out (len - m)
      rw [htake] at hsz1
      have HTK : Hid (ps.reverse.take (len - m) = ps.reverse.take (len - (m + 1)) ++ [ps[m]]) := htake
      clear htake hget hm1
      generalize ps[m] = y at hc1 hsz1 HTK
      by_cases hk0 : m + 1 = len
      · have e0 : ps.reverse.take (len - (m + 1)) = [] := by rw [hk0]; simp
        rw [e0] at hsz1
        have hy : y.size ≤ 1000000 := by rw [List.nil_append, path_one] at hsz1; exact hsz1
        have E1 : Hid (path (ps.reverse.take (len - m)) = y) := by unfold Hid; rw [HTK.out, e0]; simp [path_one]
        have E2 : path [] = ⟨#[]⟩ := rfl
        rw [e0, E2]
        clear hsz hsz1 e0 E2
        have h2 := fun w => run_string_add_sum (P := Tryd.prog) w ⟨#[]⟩ y (by show 0 + y.size ≤ _; omega)
        have hlt : ¬ (m : Int) < (len : Int) - 1 := by omega
        go_wp2
        go_round
        case rel => exact ⟨m, by omega, by go_num, by rw [E1.out]; exact congrArg _ (ByteArray.ext (by simp))⟩
        case measure => simp [intOf]
      · have e0 : ps.reverse.take (len - (m + 1)) ≠ [] := by
          intro h
          have := congrArg List.length h
          rw [List.length_take, List.length_reverse, List.length_nil] at this
          omega
        have E1 : Hid (path (ps.reverse.take (len - m)) = path (ps.reverse.take (len - (m + 1))) ++ ⟨#[62]⟩ ++ y) := by unfold Hid; rw [HTK.out, path_snoc _ _ e0]
        rw [path_snoc _ _ e0] at hsz1
        generalize path (ps.reverse.take (len - (m + 1))) = J at hsz hsz1 E1 ⊢
        have hy : J.size + 1 + y.size ≤ 1000000 := by rw [ByteArray.size_append, ByteArray.size_append] at hsz1; exact hsz1
        have h2 := fun w => run_string_add_sum (P := Tryd.prog) w J ⟨#[62]⟩ (by show J.size + 1 ≤ _; omega)
        have h3 := fun w => run_string_add_sum (P := Tryd.prog) w (J ++ ⟨#[62]⟩) y (by rw [ByteArray.size_append]; show J.size + 1 + y.size ≤ _; omega)
        clear hsz hsz1 e0 hy
        have hlt : (m : Int) < (len : Int) - 1 := by omega
        go_wp2
        go_round
        case rel => exact ⟨m, by omega, by go_num, by rw [E1.out]⟩
        case measure => simp [intOf]
    | zero =>
      have e0 : ps.reverse.take (len - 0) = ps.reverse := by rw [List.take_of_length_le (by simp; omega)]
      rw [e0]
      go_wp2
      go_ret
      exact ⟨rfl, rfl⟩
end Go.Proofs.YtiemgdclhjdmlaaDoor
