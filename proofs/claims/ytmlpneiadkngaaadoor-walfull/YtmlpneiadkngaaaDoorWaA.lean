/- What package wal's head does: a contract. -/
import Derived.Test.YtmlpneiadkngaaaDoorOctG
import Derived.Test.YtmlpneiadkngaaaDoorWaMath
namespace Go.Proofs.YtmlpneiadkngaaaDoor
open Go.RowKit

theorem head_any (g n : Nat) (w : World) (hg : g < 18446744073709551616) (hn : n < 18446744073709551616) :
    Calls Tryd.prog 76 #[.int .u64 g, .int .u64 n] w fun e w' => ∃ b, e = .returned (.slice (some ⟨b, 0, none⟩) (Wa.head g n).length (Wa.head g n).length) ∧ Row w' (some ⟨b, 0, none⟩) (Wa.head g n).length (Wa.head g n) ∧ Below w.heap.size w w' := by
  have hr := Row.new w #[.int .u8 71] 5 (0, 0) [71] rfl (by simp) (by simp [maxLen])
  have hb : Below w.heap.size w (w.alloc (.cells #[.int .u8 71] 5)) := (Below.refl _ _).alloc (Nat.le_refl _) _
  have HB : Hid (Below _ _ _) := hb
  clear hb
  go_enter Tryd.func76, Tryd.ntmps76
  go_wp2_with fail
  refine (put_any _ 1 1 g [71] _ hr (by simp) (by omega) hg).mono ?_
  rintro e w1 ⟨b1, N1, rfl, hr1, hl1, _, hb1⟩
  have HB1 : Hid (Below w.heap.size w w1) := HB.out.trans (hb1.mono HB.out.size)
  clear hb1 hr HB
  go_wp2_with fail
  refine (put_any _ N1 N1 n _ w1 hr1 (by simp) (by omega) hn).mono ?_
  rintro e w2 ⟨b2, N2, rfl, hr2, hl2, _, hb2⟩
  have HB2 : Hid (Below w.heap.size w w2) := HB1.out.trans (hb2.mono HB1.out.size)
  clear hb2 hr1
  go_wp2
  go_ret
  have e1 : ([71] ++ Oct.put g) ++ Oct.put n = Wa.head g n := rfl
  rw [e1] at hr2
  have e2 : N2 = (Wa.head g n).length := hr2.1.symm
  subst e2
  exact ⟨b2, rfl, hr2, HB2.out⟩
end Go.Proofs.YtmlpneiadkngaaaDoor
