/- What the law's own answers for the cyclic sum do: contracts. -/
import Derived.Test.YtiemgdclhjdmlaaDoorCrcD
namespace Go.Proofs.YtiemgdclhjdmlaaDoor
open Go.RowKit

set_option maxHeartbeats 1000000 in
theorem ref_more_any (s : Nat) (a : Option Addr) (n cap : Nat) (bs : List Nat) (w : World) (hs : s < 4294967296) (hr : Row w a n bs) :
    Calls Tryd.prog 57 #[.int .u32 s, .slice a n cap] w fun e w' => e = .returned (.int .u32 (Crc.more s bs : Nat)) ∧ w' = w := by
  obtain ⟨rfl, hb, hm, hr⟩ := hr
  unfold maxLen at hm
  rcases hr with rfl | ⟨b, off, rfl, hc⟩
  · go_enter Tryd.func57, Tryd.ntmps57
    go_wp2
    go_loop [0, 11] (fun t i => i = .int .i64 0 ∧ t = .int .u32 s) (fun _ i => 0)
    case atStart => exact ⟨rfl, rfl⟩
    case round =>
      obtain ⟨rfl, rfl⟩ := hrel
      go_wp2
      go_ret
      exact ⟨rfl, rfl⟩
  · go_enter Tryd.func57, Tryd.ntmps57
    go_wp2
    go_loop [0, 11] (fun t i => ∃ k : Nat, k ≤ bs.length ∧ i = .int .i64 k ∧ t = .int .u32 (Crc.more s (bs.take k) : Nat)) (fun _ i => bs.length - (intOf i).toNat)
    case atStart => exact ⟨0, Nat.zero_le _, rfl, rfl⟩
    case round =>
      obtain ⟨k, hk, rfl, rfl⟩ := hrel
      have hl := Crc.more_lt (bs.take k) s hs (fun x hx => hb x (List.mem_of_mem_take hx))
      by_cases hlt : k < bs.length
      · obtain ⟨x, hx, hck, HS⟩ : ∃ x : Nat, x < 256 ∧ w.cell? ⟨b, off + k, none⟩ = some (.int .u8 (x : Nat)) ∧ Hid (Crc.more s (bs.take (k + 1)) = Crc.behind (Crc.more s (bs.take k)) x) :=
          ⟨_, getD_lt bs hb k, hc k hlt, Crc.more_take_succ s bs k hlt⟩
        clear hc
        generalize Crc.more s (bs.take k) = t at hl HS ⊢
        have hx0 : bits .xor .u32 (t : Int) (x : Int) = ((t ^^^ x : Nat) : Int) := u32_xor_nat t x hl (by omega)
        have h0 := Crc.xor_lt t x hl hx
        go_wp2
        clear hx0
        go_loop [0, 7] (fun u i => ∃ j : Nat, j ≤ 8 ∧ i = .int .i64 j ∧ u = .int .u32 (Crc.steps j (t ^^^ x) : Nat)) (fun _ i => 8 - (intOf i).toNat)
        case atStart => exact ⟨0, Nat.zero_le _, rfl, rfl⟩
        case round =>
          obtain ⟨j, hj, rfl, rfl⟩ := hrel
          have hbj := Crc.steps_lt j (t ^^^ x) h0
          by_cases hlt8 : j < 8
          · have HN : Hid (Crc.steps (j + 1) (t ^^^ x) = Crc.step (Crc.steps j (t ^^^ x))) := rfl
            generalize Crc.steps j (t ^^^ x) = u at hbj HN ⊢
            rcases Nat.mod_two_eq_zero_or_one u with hu | hu
            · have HE : Hid (_ = _) := Crc.step_even u hu
              have hui : (u : Int) % 2 = 0 := by omega
              go_wp2
              go_round
              case rel => exact ⟨j + 1, by omega, by go_num, by rw [HE.out, HN.out]⟩
              case measure => simp [intOf]; omega
            · have HE : Hid (_ = _) := Crc.step_odd u hbj hu
              have hui : (u : Int) % 2 = 1 := by omega
              go_wp2
              go_round
              case rel => exact ⟨j + 1, by omega, by go_num, by rw [HE.out, HN.out]⟩
              case measure => simp [intOf]; omega
          · have : j = 8 := by omega
            subst this
            go_wp2
            go_round
            case rel => exact ⟨k + 1, by omega, by go_num, by rw [HS.out]; rfl⟩
            case measure => simp [intOf]; omega
      · go_wp2
        go_ret
        have : k = bs.length := by omega
        subst this
        exact ⟨by rw [List.take_length]; rfl, rfl⟩

theorem ref_of_any (a : Option Addr) (n cap : Nat) (bs : List Nat) (w : World) (hr : Row w a n bs) :
    Calls Tryd.prog 41 #[.slice a n cap] w fun e w' => e = .returned (.int .u32 (Crc.of bs : Nat)) ∧ w' = w := by
  have hl := Crc.more_lt bs 4294967295 (by omega) hr.2.1
  have HX : Hid ((4294967295 : Int) - ((Crc.more 4294967295 bs : Nat) : Int) = ((Crc.of bs : Nat) : Int)) := by
    have := Crc.sub_xor _ hl
    unfold Hid Crc.of
    rw [this]
    omega
  generalize Crc.of bs = q at HX ⊢
  go_enter Tryd.func41, Tryd.ntmps41
  go_wp2_with fail
  refine (ref_more_any 4294967295 _ _ _ _ _ (by omega) hr).mono ?_
  rintro e w' ⟨rfl, hw⟩
  subst w'
  generalize Crc.more 4294967295 bs = t at HX hl ⊢
  go_wp2
  go_ret
  exact ⟨ret_int HX.out, rfl⟩
end Go.Proofs.YtiemgdclhjdmlaaDoor
