/- What the functions of package crc, and of the law's own answers for it, do: contracts. -/
import Derived.Test.YtmlpneiadkngaaaDoorBase
import Derived.Test.YtmlpneiadkngaaaDoorCrcMath
namespace Go.Proofs.YtmlpneiadkngaaaDoor
open Go.RowKit

theorem behind_any (s x : Nat) (w : World) (hs : s < 4294967296) (hx : x < 256) :
    Calls Tryd.prog 82 #[.int .u32 s, .int .u8 x] w fun e w' => e = .returned (.int .u32 (Crc.behind s x : Nat)) ∧ w' = w := by
  have h0 := Crc.xor_lt s x hs hx
  have hx0 : bits .xor .u32 (s : Int) (x : Int) = ((s ^^^ x : Nat) : Int) := u32_xor_nat s x hs (by omega)
  go_enter Tryd.func82, Tryd.ntmps82
  go_wp2
  clear hx0
  go_loop [0, 10] (fun t i => ∃ k : Nat, k ≤ 8 ∧ i = .int .i64 k ∧ t = .int .u32 (Crc.steps k (s ^^^ x) : Nat)) (fun _ i => 8 - (intOf i).toNat)
  case atStart => exact ⟨0, Nat.zero_le _, rfl, rfl⟩
  case round =>
    obtain ⟨k, hk, rfl, rfl⟩ := hrel
    have hb := Crc.steps_lt k (s ^^^ x) h0
    have hm := Crc.step_mask _ hb
    by_cases hlt : k < 8
    · go_wp2
      go_round
      case rel => exact ⟨k + 1, by omega, by go_num, by rfl⟩
      case measure => simp [intOf]; omega
    · go_wp2
      go_ret
      have : k = 8 := by omega
      subst this
      exact ⟨rfl, rfl⟩

theorem more_any (s : Nat) (a : Option Addr) (n cap : Nat) (bs : List Nat) (w : World) (hs : s < 4294967296) (hr : Row w a n bs) :
    Calls Tryd.prog 75 #[.int .u32 s, .slice a n cap] w fun e w' => e = .returned (.int .u32 (Crc.more s bs : Nat)) ∧ w' = w := by
  obtain ⟨rfl, hb, hm, hr⟩ := hr
  unfold maxLen at hm
  rcases hr with rfl | ⟨b, off, rfl, hc⟩
  · go_enter Tryd.func75, Tryd.ntmps75
    go_wp2
    go_loop [0, 9] (fun t i => i = .int .i64 0 ∧ t = .int .u32 s) (fun _ i => 0)
    case atStart => exact ⟨rfl, rfl⟩
    case round =>
      obtain ⟨rfl, rfl⟩ := hrel
      go_wp2
      go_ret
      exact ⟨rfl, rfl⟩
  · go_enter Tryd.func75, Tryd.ntmps75
    go_wp2
    go_loop [0, 9] (fun t i => ∃ k : Nat, k ≤ bs.length ∧ i = .int .i64 k ∧ t = .int .u32 (Crc.more s (bs.take k) : Nat)) (fun _ i => bs.length - (intOf i).toNat)
    case atStart => exact ⟨0, Nat.zero_le _, rfl, rfl⟩
    case round =>
      obtain ⟨k, hk, rfl, rfl⟩ := hrel
      have hl := Crc.more_lt (bs.take k) s hs (fun x hx => hb x (List.mem_of_mem_take hx))
      by_cases hlt : k < bs.length
      · obtain ⟨x, hx, hck, HS⟩ : ∃ x : Nat, x < 256 ∧ w.cell? ⟨b, off + k, none⟩ = some (.int .u8 (x : Nat)) ∧ Hid (Crc.more s (bs.take (k + 1)) = Crc.behind (Crc.more s (bs.take k)) x) :=
          ⟨_, getD_lt bs hb k, hc k hlt, Crc.more_take_succ s bs k hlt⟩
        clear hc
        go_wp2_with (go_at_call 82; refine (behind_any _ _ _ hl hx).mono ?_; rintro e w' ⟨rfl, rfl⟩)
        go_round
        case rel => exact ⟨k + 1, by omega, by go_num, by rw [HS.out]⟩
        case measure => simp [intOf]; omega
      · go_wp2
        go_ret
        have : k = bs.length := by omega
        subst this
        exact ⟨by rw [List.take_length]; rfl, rfl⟩
end Go.Proofs.YtmlpneiadkngaaaDoor
