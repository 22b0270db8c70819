/- What the writing functions of package octet do: contracts, second part. -/
import Derived.Test.YteokhedljfakkaaDoorOctA
namespace Go.Proofs.YteokhedljfakkaaDoor
open Go.RowKit

theorem own_any (g n cap : Nat) (w : World) (hc : n ≤ cap) :
    Calls Tryd.prog 90 #[.slice (some ⟨g, 0, none⟩) n cap] w fun e w' => e = .returned (.slice (some ⟨g, 0, none⟩) n n) ∧ w' = w := by
  go_enter Tryd.func90, Tryd.ntmps90
  go_wp2
  go_ret
  exact ⟨rfl, rfl⟩

theorem put_any (a : Option Addr) (n cap m : Nat) (bs : List Nat) (w : World) (hr : Row w a n bs) (hz : a = none → cap = 0) (hn : n ≤ 100000) (hm : m < 18446744073709551616) :
    Calls Tryd.prog 74 #[.slice a n cap, .int .u64 m] w fun e w' => ∃ g N, e = .returned (.slice (some ⟨g, 0, none⟩) N N) ∧ Row w' (some ⟨g, 0, none⟩) N (bs ++ Oct.put m) ∧ N ≤ n + 10 ∧ w.heap.size ≤ g ∧ Below w.heap.size w w' := by
  have hlen := hr.1
  have hpl := Oct.putF_len 9 m
  go_enter Tryd.func74, Tryd.ntmps74
  go_wp2_with fail
  refine (copy_any _ _ _ 10 _ _ hr hz (by omega) (by omega)).mono ?_
  rintro e w1 ⟨v1, rfl, ho1, hb1⟩
  go_wp2_with fail
  refine (putNumber_any _ _ _ _ _ ho1 hb1.size (by omega) hm).mono ?_
  rintro e w2 ⟨v2, rfl, ho2, hb2⟩
  obtain ⟨g, N, cap2, rfl, hN, hg, _, hc2, hm2⟩ := ho2.form (by intro h; have := congrArg List.length h; rw [List.length_append, List.length_nil] at this; unfold Oct.put at this; omega)
  have hNl : N ≤ n + 10 := by rw [hN, List.length_append]; unfold Oct.put; omega
  clear hN
  go_wp2_with fail
  refine (own_any _ _ _ _ hc2).mono ?_
  rintro e w3 ⟨rfl, hw⟩
  subst w3
  go_wp2
  go_ret
  exact ⟨g, N, rfl, ho2.row, hNl, hg, hb1.trans hb2⟩

theorem put_300 : Oct.put 300 = [172, 2] := by decide +kernel

end Go.Proofs.YteokhedljfakkaaDoor
