/- What the functions of package crc, and of the law's own answers for it, do: contracts, second part. -/
import Derived.Test.YtmlpneiadkngaaaDoorCrcA
namespace Go.Proofs.YtmlpneiadkngaaaDoor
open Go.RowKit

theorem of_any (a : Option Addr) (n cap : Nat) (bs : List Nat) (w : World) (hr : Row w a n bs) :
    Calls Tryd.prog 65 #[.slice a n cap] w fun e w' => e = .returned (.int .u32 (Crc.of bs : Nat)) ∧ w' = w := by
  have hl := Crc.more_lt bs 4294967295 (by omega) hr.2.1
  have hx : bits .xor .u32 ((Crc.more 4294967295 bs : Nat) : Int) 4294967295 = ((Crc.more 4294967295 bs ^^^ 4294967295 : Nat) : Int) := u32_xor_nat _ 4294967295 hl (by omega)
  have HX : Hid (_ = _) := hx
  clear hx
  go_enter Tryd.func65, Tryd.ntmps65
  go_wp2_with (go_at_call 75; refine (more_any 4294967295 _ _ _ _ _ (by omega) hr).mono ?_; rintro e w' ⟨rfl, rfl⟩)
  go_ret
  exact ⟨by rw [HX.out]; rfl, rfl⟩

theorem low_any (a : Option Addr) (cap : Nat) (bs : List Nat) (w : World) (hr : Row w a 4 bs) :
    Calls Tryd.prog 84 #[.slice a 4 cap] w fun e w' => e = .returned (.int .u32 (Crc.low bs : Nat)) ∧ w' = w := by
  obtain ⟨hl, hb, hm, hr⟩ := hr
  rcases hr with rfl | ⟨b, off, rfl, hc⟩
  · simp at hl
  · go_enter Tryd.func84, Tryd.ntmps84
    go_wp2
    go_loop [3, 8] (fun t i => ∃ k : Nat, k ≤ 4 ∧ i = .int .i64 k ∧ t = .int .u32 (Crc.low (bs.take k) : Nat)) (fun _ i => 4 - (intOf i).toNat)
    case atStart => exact ⟨0, Nat.zero_le _, rfl, rfl⟩
    case round =>
      obtain ⟨k, hk, rfl, rfl⟩ := hrel
      by_cases hlt : k < 4
      · obtain ⟨x, hx, hck, HS⟩ : ∃ x : Nat, x < 256 ∧ w.cell? ⟨b, off + k, none⟩ = some (.int .u8 (x : Nat)) ∧ Hid (Crc.low (bs.take (k + 1)) = Crc.low (bs.take k) + x * 2 ^ (8 * k)) :=
          ⟨_, getD_lt bs hb k, hc k (by omega), Crc.low_take_succ bs k (by omega)⟩
        have ht := Crc.low_lt (bs.take k) (fun x hx => hb x (List.mem_of_mem_take hx))
        rw [List.length_take, hl, Nat.min_eq_left (Nat.le_of_lt hlt)] at ht
        have HO : Hid (_ = _) := Crc.low_or _ x k hlt ht hx
        clear hc ht
        go_wp2
        go_round
        case rel => exact ⟨k + 1, by omega, by go_num, by rw [HO.out, HS.out]⟩
        case measure => simp [intOf]; omega
      · go_wp2
        go_ret
        have : k = 4 := by omega
        subst this
        exact ⟨by rw [← hl, List.take_length]; rfl, rfl⟩
end Go.Proofs.YtmlpneiadkngaaaDoor
