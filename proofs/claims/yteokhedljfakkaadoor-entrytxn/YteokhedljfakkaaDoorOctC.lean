/- What the reading functions of package octet do: contracts. -/
import Derived.Test.YteokhedljfakkaaDoorOctB
namespace Go.Proofs.YteokhedljfakkaaDoor
open Go.RowKit

set_option maxRecDepth 100000 in
set_option maxHeartbeats 2000000 in
theorem number_any (a : Option Addr) (n cap : Nat) (bs : List Nat) (w : World) (hr : Row w a n bs) :
    Calls Tryd.prog 92 #[.slice a n cap] w fun e w' => e = .returned (.tuple #[.int .u64 ((Oct.num 0 0 bs).1 : Nat), .int .i64 ((Oct.num 0 0 bs).2 : Nat)]) ∧ w' = w := by
  obtain ⟨rfl, hb, hm, hr⟩ := hr
  unfold maxLen at hm
  rcases hr with rfl | ⟨b, off, rfl, hc⟩
  · go_enter Tryd.func92, Tryd.ntmps92
    go_wp2
    go_loop [2, 3, 8] (fun t s i => i = .int .i64 0 ∧ t = .int .u64 0 ∧ s = .int .i64 0) (fun _ _ i => 0)
    case atStart => exact ⟨rfl, rfl, rfl⟩
    case round =>
      obtain ⟨rfl, rfl, rfl⟩ := hrel
      go_wp2
      go_ret2
      exact ⟨rfl, rfl⟩
  · obtain ⟨R, hR⟩ : ∃ R, R = Oct.num 0 0 bs := ⟨_, rfl⟩
    rw [← hR]
    have HR0 : Hid (Oct.num 0 0 (bs.drop 0) = R) := by unfold Hid; rw [List.drop_zero, hR]
    clear hR
    go_enter Tryd.func92, Tryd.ntmps92
    go_wp2
    go_loop [2, 3, 8] (fun t s i => ∃ k acc : Nat, k ≤ bs.length ∧ k ≤ 10 ∧ i = .int .i64 k ∧ t = .int .u64 (acc : Nat) ∧ s = .int .i64 0 ∧ Hid (k < bs.length → k ≤ 9) ∧ Hid (acc < 2 ^ (7 * k)) ∧ Hid (Oct.num k acc (bs.drop k) = R)) (fun _ _ i => bs.length - (intOf i).toNat)
    case atStart => exact ⟨0, 0, Nat.zero_le _, by omega, rfl, rfl, rfl, fun _ => by omega, by simp [Hid], HR0⟩
    case round =>
      clear HR0
      obtain ⟨k, acc, hk, hk10, rfl, rfl, rfl, H9, HA, HR⟩ := hrel
      by_cases hlt : k < bs.length
      · have hk9 := H9.out hlt
        obtain ⟨x, hx, hck, HD⟩ : ∃ x : Nat, x < 256 ∧ w.cell? ⟨b, off + k, none⟩ = some (.int .u8 (x : Nat)) ∧ Hid (bs.drop k = x :: bs.drop (k + 1)) :=
          ⟨_, getD_lt bs hb k, hc k hlt, by unfold Hid; rw [List.drop_eq_getElem_cons hlt]; simp [hlt]⟩
        have HR2 : Hid (Oct.num k acc (x :: bs.drop (k + 1)) = R) := by unfold Hid; rw [← HD.out]; exact HR.out
        clear hc HR HD H9
        obtain ⟨y, hy⟩ : ∃ y, y = x % 128 := ⟨_, rfl⟩
        have han := Oct.and_not x hx
        rw [← hy] at han
        have HY : Hid (y = x % 128) := hy
        have hy128 : y < 128 := by omega
        by_cases h9 : k = 9 ∧ 1 < x
        · obtain ⟨rfl, h1⟩ := h9
          have e : R = (0, 0) := by rw [← HR2.out, Oct.num_over _ _ _ h1]
          subst e
          clear HR2 HA hy
          go_wp2
          go_ret2
          exact ⟨rfl, rfl⟩
        · have hy9 : k = 9 → y ≤ 1 := by omega
          obtain ⟨ho, ho64, hon⟩ := Oct.acc_or k acc y hk9 HA.out hy128 hy9
          have HO : Hid (_ = _) := ho
          have HN : Hid (_ → _) := hon
          by_cases hm : 128 ≤ x
          · have hk8 : k < 9 := by omega
            have hk8b : ((k : Int) == 9) = false := by simp; omega
            have HR3 : Hid (Oct.num (k + 1) (acc + y * 2 ^ (7 * k)) (bs.drop (k + 1)) = R) := by unfold Hid; rw [← HR2.out, Oct.num_more _ _ _ _ h9 hm, HY.out]
            clear ho ho64 hon HR2 HA h9 hy9 hy
            go_wp2
            go_round
            case rel => exact ⟨k + 1, acc + y * 2 ^ (7 * k), by omega, by omega, by go_num, by rw [← HO.out], rfl, fun _ => by omega, HN.out hk8, HR3⟩
            case measure => simp [intOf]; omega
          · have hyx : y = x := by omega
            by_cases h0 : x = 0 ∧ 0 < k
            · obtain ⟨rfl, h0k⟩ := h0
              have e : R = (0, 0) := by rw [← HR2.out, Oct.num_zero _ _ _ h0k]
              subst e
              subst hyx
              clear ho ho64 hon HR2 HA h9 hy9 hy HN HO HY
              by_cases hk9' : k = 9
              · subst hk9'
                go_wp2
                go_ret2
                exact ⟨rfl, rfl⟩
              · have hk8b : ((k : Int) == 9) = false := by simp; omega
                go_wp2
                go_ret2
                exact ⟨rfl, rfl⟩
            · have e : R = (acc + x * 2 ^ (7 * k), k + 1) := by rw [← HR2.out, Oct.num_last _ _ _ _ h9 (by omega) h0]
              rw [hyx] at HO han
              have HE : Hid (R = _) := e
              clear e ho ho64 hon HR2 HA hy HN HY hy9 hy128
              clear hyx
              have fin : ∀ u : Int, u = bits .or .u64 (acc : Int) (IntKind.u64.wrap ((x : Int) * 2 ^ (7 * k))) → Ending.returned (.tuple #[.int .u64 u, .int .i64 ((k : Int) + 1)]) = .returned (.tuple #[.int .u64 (R.1 : Nat), .int .i64 (R.2 : Nat)]) := by
                intro u hu
                rw [hu, HO.out, HE.out]
                rfl
              have FIN : Hid (∀ u : Int, _) := fin
              clear fin HO HE
              by_cases hk9' : k = 9
              · subst hk9'
                have hx1 : ¬ 1 < x := by omega
                by_cases hx0 : x = 0
                · exact absurd ⟨hx0, by omega⟩ h0
                · have hx0b : ((x : Int) == 0) = false := by simp; omega
                  clear h9 h0
                  go_wp2
                  go_ret2
                  exact ⟨FIN.out _ (by rw [IntKind.wrap_u64]; congr 1; have h63 : (2 : Int) ^ (7 * 9) = 9223372036854775808 := by decide
                                       rw [h63]; omega), rfl⟩
              · have hk8b : ((k : Int) == 9) = false := by simp; omega
                by_cases hx0 : x = 0
                · have hk0 : ¬ (0 : Int) < (k : Int) := by omega
                  have hx0b : ((x : Int) == 0) = true := by simp; omega
                  clear h9 h0 hx0
                  go_wp2
                  go_ret2
                  exact ⟨FIN.out _ rfl, rfl⟩
                · have hx0b : ((x : Int) == 0) = false := by simp; omega
                  clear h9 h0
                  go_wp2
                  go_ret2
                  exact ⟨FIN.out _ rfl, rfl⟩
      · have e : R = (0, 0) := by rw [← HR.out, List.drop_eq_nil_of_le (by omega)]; rfl
        subst e
        clear HR HA H9
        go_wp2
        go_ret2
        exact ⟨rfl, rfl⟩
end Go.Proofs.YteokhedljfakkaaDoor
