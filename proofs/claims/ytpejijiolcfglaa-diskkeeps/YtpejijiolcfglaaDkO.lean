/- One call of the law's, of both disks, whatever it is. -/
import Derived.Test.YtpejijiolcfglaaDkM
import Derived.Test.YtpejijiolcfglaaDkN
import Derived.OpenShut
namespace Go.Proofs.Ytpejijiolcfglaa
open Go.RowKit

/-- one call, whatever it is -/
theorem step_any (g h : Nat) (S : Nat → Prop) (d : DS) (o : Opv) (w : World) (t : Two w S g h d) (ho : o.ok) :
    Calls Try.prog 9 #[.pointer (some ⟨g, 0, none⟩), .pointer (some ⟨h, 0, none⟩), .agg #[.int .i64 o.kind, .int .i64 o.area, .string o.b, .int .i64 o.n, .int .u16 o.k0, .int .u16 o.k1]] w fun e w' => e = .returned (.bool true) ∧ (∃ d', Two w' S g h d') ∧ Fr (fun k => S k ∨ k = h) w w' := by
  obtain ⟨kind, ar, b, n, x0, x1⟩ := o
  obtain ⟨h1, h2, h3, h4, h5, h6⟩ := ho
  dsimp only at *
  have hn := (bounds_i64 h4).2
  have hx0 := bounds_u16 h5
  have hx1 := bounds_u16 h6
  obtain ⟨k0, rfl⟩ : ∃ k : Nat, x0 = (k : Int) := ⟨x0.toNat, by omega⟩
  obtain ⟨k1, rfl⟩ : ∃ k : Nat, x1 = (k : Int) := ⟨x1.toNat, by omega⟩
  have hk0 : k0 < 65536 := by omega
  have hk1 : k1 < 65536 := by omega
  have h3' : b.size ≤ 9223372036854775807 := h3
  by_cases hs : b.size ≤ 50
  · by_cases c0 : kind = 0
    · subst c0; exact step_append0_s g h S d ar n k0 k1 b w t hs hn hk0 hk1
    by_cases c1 : kind = 1
    · subst c1; exact step_append1_s g h S d ar n k0 k1 b w t hs hn hk0 hk1
    by_cases c2 : kind = 2
    · subst c2; exact step_sync_s g h S d ar n k0 k1 b w t hs hn hk0 hk1
    by_cases c3 : kind = 3
    · subst c3; exact step_cut_s g h S d ar n k0 k1 b w t hs hn hk0 hk1
    by_cases c4 : kind = 4
    · subst c4; exact step_arm_s g h S d ar n k0 k1 b w t hs hn hk0 hk1
    by_cases c5 : kind = 5
    · subst c5; exact step_crash_s g h S d ar n k0 k1 b w t hs hn hk0 hk1
    exact step_other_s g h S d kind ar n k0 k1 b w t hs hn hk0 hk1 (by simpa using c0) (by simpa using c1) (by simpa using c2) (by simpa using c3) (by simpa using c4) (by simpa using c5)
  · have hl : 50 < b.size ∧ b.size ≤ 9223372036854775807 := ⟨by omega, h3'⟩
    by_cases c0 : kind = 0
    · subst c0; exact step_append0_l g h S d ar n k0 k1 b w t hl hn hk0 hk1
    by_cases c1 : kind = 1
    · subst c1; exact step_append1_l g h S d ar n k0 k1 b w t hl hn hk0 hk1
    by_cases c2 : kind = 2
    · subst c2; exact step_sync_l g h S d ar n k0 k1 b w t hl hn hk0 hk1
    by_cases c3 : kind = 3
    · subst c3; exact step_cut_l g h S d ar n k0 k1 b w t hl hn hk0 hk1
    by_cases c4 : kind = 4
    · subst c4; exact step_arm_l g h S d ar n k0 k1 b w t hl hn hk0 hk1
    by_cases c5 : kind = 5
    · subst c5; exact step_crash_l g h S d ar n k0 k1 b w t hl hn hk0 hk1
    exact step_other_l g h S d kind ar n k0 k1 b w t hl hn hk0 hk1 (by simpa using c0) (by simpa using c1) (by simpa using c2) (by simpa using c3) (by simpa using c4) (by simpa using c5)
end Go.Proofs.Ytpejijiolcfglaa
