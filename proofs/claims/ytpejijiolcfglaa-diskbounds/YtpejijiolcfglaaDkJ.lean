/- The law's example. -/
import Derived.Test.YtpejijiolcfglaaDkF
import Derived.Test.YtpejijiolcfglaaDkI
namespace Go.Proofs.Ytpejijiolcfglaa
open Go.RowKit

theorem aw0 : DS.new (min (100 : Int).toNat 1048576) = ⟨100, [], 0, [], 0, false, none⟩ := by kernel_rfl
theorem aw1 : DS.append ⟨100, [], 0, [], 0, false, none⟩ 0 [97, 98, 99] = (0, ⟨100, [97, 98, 99], 0, [], 0, false, none⟩) := by kernel_rfl
theorem aw2 : DS.sync ⟨100, [97, 98, 99], 0, [], 0, false, none⟩ 0 = (0, ⟨100, [97, 98, 99], 3, [], 0, false, none⟩) := by kernel_rfl
theorem aw3 : DS.append ⟨100, [97, 98, 99], 3, [], 0, false, none⟩ 0 [100, 101] = (0, ⟨100, [97, 98, 99, 100, 101], 3, [], 0, false, none⟩) := by kernel_rfl
theorem aw4 : DS.crash ⟨100, [97, 98, 99, 100, 101], 3, [], 0, false, none⟩ 1 0 = ⟨100, [97, 98, 99, 100], 4, [], 0, false, none⟩ := by kernel_rfl
theorem aw5 : DS.read ⟨100, [97, 98, 99, 100], 4, [], 0, false, none⟩ 0 = ([97, 98, 99, 100], 0) := by kernel_rfl
theorem aw6 : DS.sureOf ⟨100, [97, 98, 99, 100], 4, [], 0, false, none⟩ 0 = 4 := by kernel_rfl
theorem aw7 : DS.free ⟨100, [97, 98, 99, 100], 4, [], 0, false, none⟩ = 96 := by kernel_rfl

set_option maxHeartbeats 1000000 in
set_option maxRecDepth 100000 in
theorem awake_true (w : World) : Calls Try.prog 13 #[] w fun e w' => e = .returned (.bool true) ∧ Below w.heap.size w w' := by
  have kc := fun (w : World) (C : Array Value) (n c : Nat) => Lib.run_convert_bytes_const (P := Try.prog) w 33 5 C n c Try.underlying33 Try.underlying5
  go_enter Try.func13, Try.ntmps13
  go_wp2_with fail
  have ct := dnew_any 100 w (w.heap.size ≤ ·) (fun k h => h)
  rw [aw0] at ct
  refine ct.mono ?_
  clear ct
  rintro e w1 ⟨rfl, hD, hb⟩
  have HB1 : Hid (Below w.heap.size w w1) := hb
  have hD1 := hD
  have hs1 : w.heap.size ≤ w1.heap.size := hb.size
  have a1 : Below w1.heap.size w1 (w1.alloc (.cells #[.int .u8 97, .int .u8 98, .int .u8 99] 5 (3, 4))) := (Below.refl _ _).alloc (Nat.le_refl _) _
  have r1 := Row.new w1 #[.int .u8 97, .int .u8 98, .int .u8 99] 5 (3, 4) [97, 98, 99] rfl (by simp) (by simp [maxLen])
  have d1 := hD1.later a1
  have HB2 : Hid (Below w.heap.size w (w1.alloc (.cells #[.int .u8 97, .int .u8 98, .int .u8 99] 5 (3, 4)))) := hb.alloc (by omega) _
  clear hD hb hD1
  go_wp2_with fail
  generalize w1.alloc (.cells #[.int .u8 97, .int .u8 98, .int .u8 99] 5 (3, 4)) = w2 at *
  have hs2 : w.heap.size ≤ w2.heap.size := Nat.le_trans hs1 a1.size
  have ct := dappend_any w.heap.size (w.heap.size ≤ ·) _ 0 _ 3 3 [97, 98, 99] w2 d1 (fun k hk => Nat.le_trans hs2 hk) r1 (by simp)
  rw [aw1] at ct
  refine ct.mono ?_
  clear ct
  rintro e w3 ⟨rfl, hD, hf⟩
  have HB3 : Hid (Below w.heap.size w w3) := HB2.out.trans (hf.below hs2 (fun _ h => h))
  have hs3 : w.heap.size ≤ w3.heap.size := Nat.le_trans hs2 hf.size
  have d3 := hD
  clear d1 hD hf r1 a1 HB1 HB2
  go_wp2_with fail
  have ct := dsync_any w.heap.size (w.heap.size ≤ ·) _ 0 w3 d3
  rw [aw2] at ct
  refine ct.mono ?_
  clear ct
  rintro e w4 ⟨rfl, hD, hf⟩
  have HB4 : Hid (Below w.heap.size w w4) := HB3.out.trans (hf.below hs3 (fun _ h => by omega))
  have hs4 : w.heap.size ≤ w4.heap.size := Nat.le_trans hs3 hf.size
  have d4 := hD
  clear hD hf HB3 d3
  have a4 : Below w4.heap.size w4 (w4.alloc (.cells #[.int .u8 100, .int .u8 101] 5 (2, 3))) := (Below.refl _ _).alloc (Nat.le_refl _) _
  have r4 := Row.new w4 #[.int .u8 100, .int .u8 101] 5 (2, 3) [100, 101] rfl (by simp) (by simp [maxLen])
  have d5 := d4.later a4
  have HB5 : Hid (Below w.heap.size w (w4.alloc (.cells #[.int .u8 100, .int .u8 101] 5 (2, 3)))) := HB4.out.alloc (by omega) _
  clear d4 HB4
  go_wp2_with fail
  generalize w4.alloc (.cells #[.int .u8 100, .int .u8 101] 5 (2, 3)) = w5 at *
  have hs5 : w.heap.size ≤ w5.heap.size := Nat.le_trans hs4 a4.size
  have ct := dappend_any w.heap.size (w.heap.size ≤ ·) _ 0 _ 2 2 [100, 101] w5 d5 (fun k hk => Nat.le_trans hs5 hk) r4 (by simp)
  rw [aw3] at ct
  refine ct.mono ?_
  clear ct
  rintro e w6 ⟨rfl, hD, hf⟩
  have HB6 : Hid (Below w.heap.size w w6) := HB5.out.trans (hf.below hs5 (fun _ h => h))
  have hs6 : w.heap.size ≤ w6.heap.size := Nat.le_trans hs5 hf.size
  have d6 := hD
  clear d5 hD hf r4 a4 HB5
  go_wp2_with fail
  have ct := dcrash_any w.heap.size (w.heap.size ≤ ·) _ 1 0 w6 d6 (by omega) (by omega)
  rw [aw4] at ct
  refine ct.mono ?_
  clear ct
  rintro e w7 ⟨rfl, hD, hf⟩
  have HB7 : Hid (Below w.heap.size w w7) := HB6.out.trans (hf.below hs6 (fun _ h => by omega))
  have hs7 : w.heap.size ≤ w7.heap.size := Nat.le_trans hs6 hf.size
  have d7 := hD
  clear hD hf HB6 d6
  go_wp2_with fail
  have ct := dread_any w.heap.size (w.heap.size ≤ ·) _ 0 w7 d7
  rw [aw5] at ct
  refine ct.mono ?_
  clear ct
  rintro e w8 ⟨v, rfl, ho, hb⟩
  have ho8 := ho
  have HB8 : Hid (Below w.heap.size w w8) := HB7.out.trans (hb.mono hs7)
  have d8 := d7.later hb
  have hs8 : w.heap.size ≤ w8.heap.size := Nat.le_trans hs7 hb.size
  obtain ⟨a, n, c, rfl, hrow, hcap, hmax, hz, _⟩ := ho8.slice
  have hcv := conv_row hrow c
  clear hb HB7 d7 ho ho8
  have c8 : str [97, 98, 99, 100] = ⟨#[97, 98, 99, 100]⟩ := rfl
  rw [c8] at hcv
  go_wp2_with fail
  have ct := dsure_any w.heap.size (w.heap.size ≤ ·) _ 0 w8 d8
  rw [aw6] at ct
  refine ct.mono ?_
  clear ct
  rintro e w9 ⟨rfl, hw⟩
  subst w9
  go_wp2_with fail
  have ct := droom_any w.heap.size (w.heap.size ≤ ·) _ w8 d8
  rw [aw7] at ct
  refine ct.mono ?_
  clear ct
  rintro e w9 ⟨rfl, k9, hw⟩
  subst w9
  have HB9 : Hid (Below w.heap.size w (w8.drewN k9)) := below_drewN HB8.out k9
  generalize w8.drewN k9 = w9 at *
  go_wp2
  go_ret
  exact ⟨rfl, HB9.out⟩
end Go.Proofs.Ytpejijiolcfglaa
