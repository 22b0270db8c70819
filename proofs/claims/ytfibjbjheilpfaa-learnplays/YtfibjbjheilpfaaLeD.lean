/- The program's From. -/
import Derived.Test.YtfibjbjheilpfaaLeC
import Derived.Lib.MinMax
namespace Go.Proofs.Ytfibjbjheilpfaa
open Go Go.RowKit
set_option linter.unusedVariables false
set_option linter.unusedSimpArgs false

theorem below_drews {B : Nat} {a w : World} (h : Below B a w) (n : Nat) : Below B a (w.drewN n) := ⟨h.os, h.tape, h.output, h.size, h.block⟩
abbrev encs (l : List ByteArray) : List Value := l.map .string
theorem fromC_none (F : Ch) (s m : Int) (h : s < 0 ∨ m < 1) : fromC F s m = [] := by
  have : cntC (prefC F) s m = 0 := by unfold cntC; split <;> omega
  simp [fromC, fromP, this]
set_option maxRecDepth 100000 in
theorem from_bad (p : Option Addr) (s m : Int) (w : World) (h : s < 0 ∨ m < 1) :
    Calls Try.prog 17 #[.pointer p, .int .i64 s, .int .i64 m] w fun e w' => e = .returned (.slice none 0 0) ∧ w' = w := by
  by_cases h1 : s < 0
  · go_enter Try.func17, Try.ntmps17
    go_wp2
    go_ret
    exact ⟨rfl, rfl⟩
  · have h2 : m < 1 := by omega
    have h3 : decide (s < 0) = false := by simpa using h1
    go_enter Try.func17, Try.ntmps17
    go_wp2
    go_ret
    exact ⟨rfl, rfl⟩
theorem encs_snoc (F : Ch) (a k : Nat) : encs ((List.range (k + 1)).map fun i => valC F (a + i)) = encs ((List.range k).map fun i => valC F (a + i)) ++ [.string (valC F (a + k))] := by
  rw [range_snoc]; simp [encs]
set_option maxRecDepth 100000 in
set_option maxHeartbeats 2000000 in
theorem from_in (g : Nat) (F : Ch) (a : Nat) (m : Int) (w : World) (h : Le w g F) (ha : a ≤ 9223372036854775807) (hm : 1 ≤ m) (hm2 : m ≤ 9223372036854775807) :
    Calls Try.prog 17 #[.pointer (some ⟨g, 0, none⟩), .int .i64 (a : Nat), .int .i64 m] w fun e w' => ∃ v, e = .returned v ∧ OwnV w' w.heap.size 9 v (encs (fromC F (a : Nat) m)) ∧ Below w.heap.size w w' := by
  have hp := prefC_le F
  have HF : Hid (fromC F (a : Nat) m = (List.range (cntC (prefC F) (a : Nat) m)).map fun i => valC F (a + i)) := by
    rw [Hid, fromC, fromP, Int.toNat_natCast]
  have HC : Hid (cntC (prefC F) (a : Nat) m = (min m ((prefC F : Nat) - (a : Nat) : Int)).toNat) := by rw [Hid, cntC, if_neg (by omega)]
  have h1 := prefix_any g F w h
  have HL : Hid (Le w g F) := h
  have HX : Hid (prefC F = prefC F) := rfl
  clear h
  generalize hpp : prefC F = p at *
  have h0 : ¬ ((a : Nat) : Int) < 0 := by omega
  have h3 : decide (((a : Nat) : Int) < 0) = false := by simp
  have h4 : decide (m < 1) = false := by simp; omega
  go_enter Try.func17, Try.ntmps17
  clear HX h0 hpp
  go_wp2_with (first | (go_at_call 10; refine h1.mono ?_; rintro e w' ⟨rfl, d, rfl⟩) | fail)
  generalize hq : min m ((p : Nat) - (a : Nat) : Int) = q at *
  have HQ : Hid (q ≤ 400 ∧ (∀ k : Nat, (k : Int) < q → a + k < 400)) := ⟨by omega, fun k hk => by omega⟩
  have hq4 : q ≤ 400 := HQ.out.1
  clear hq hp hm hm2 h3 h4 h1
  have HB0 : Hid (Below w.heap.size w (w.drewN d)) := below_drews (Below.refl _ _) d
  generalize w.drewN d = w0 at *
  go_loopw [7, 8, 21] (fun v i t wr => ∃ k : Nat, t = .int .i64 (k : Nat) ∧ k ≤ q.toNat ∧ Hid (OwnV wr w.heap.size 9 v (encs ((List.range k).map fun i => valC F (a + i)))) ∧ Hid (Below w.heap.size w wr)) (fun _ _ t _ => q.toNat - (intOf t).toNat)
  case atStart => exact ⟨0, rfl, by omega, OwnV.nil _ _ _, HB0.out⟩
  case round =>
    obtain ⟨k, rfl, hk, HO, HW⟩ := hrel
    by_cases hlt : (k : Int) < q
    · have hak : a + k < 400 := HQ.out.2 k hlt
      have c0 := (HL.out.later HW.out).cell (a + k) hak
      obtain ⟨c0, -⟩ := c0
      obtain ⟨x, n, c, rfl⟩ := owns_slice HO.out
      have HV : Hid (encs ((List.range (k + 1)).map fun i => valC F (a + i)) = encs ((List.range k).map fun i => valC F (a + i)) ++ [.string (valC F (a + k))]) := encs_snoc F a k
      generalize valC F (a + k) = y at *
      have hlen : (encs ((List.range k).map fun i => valC F (a + i))).length = k := by simp [encs]
      have HLEN : Hid ((encs ((List.range k).map fun i => valC F (a + i))).length = k) := hlen
      generalize encs ((List.range k).map fun i => valC F (a + i)) = xs at *
      clear hlen
      have hsz := HW.out.size
      go_wp2_with (at_builtin; refine wp_append_one 36 9 _ 16 Try.underlying36 Try.info_9 rfl rfl _ _ rfl w.heap.size _ _ rfl (HO.out.alloc _) _ _ (.string y) rfl (by simp) rfl (by have := HLEN.out; omega) (by have := HLEN.out; omega) (by simp; omega) ?_; intro v2 w2 ho2 hb2)
      go_roundw
      case rel => exact ⟨k + 1, by go_num, by omega, by unfold Hid; rw [HV.out]; exact ho2, (HW.out.alloc hsz _).trans hb2⟩
      case measure => simp [intOf]; omega
    · have hk2 : k = q.toNat := by omega
      have HE : Hid (encs (fromC F (a : Nat) m) = encs ((List.range k).map fun i => valC F (a + i))) := by rw [Hid, HF.out, HC.out, hk2]
      clear HF HC
      go_wp2
      go_ret
      exact ⟨_, rfl, by rw [HE.out]; exact HO.out, HW.out⟩
theorem from_any (g : Nat) (F : Ch) (s m : Int) (w : World) (h : Le w g F) (hs : (Lit.int .i64 s).wf = true) (hm : (Lit.int .i64 m).wf = true) :
    Calls Try.prog 17 #[.pointer (some ⟨g, 0, none⟩), .int .i64 s, .int .i64 m] w fun e w' => ∃ v, e = .returned v ∧ OwnV w' w.heap.size 9 v (encs (fromC F s m)) ∧ Below w.heap.size w w' := by
  by_cases hb : s < 0 ∨ m < 1
  · refine (from_bad _ s m w hb).mono ?_
    rintro e w' ⟨rfl, rfl⟩
    exact ⟨_, rfl, by rw [fromC_none F s m hb]; exact OwnV.nil _ _ _, Below.refl _ _⟩
  · obtain ⟨a, rfl⟩ : ∃ a : Nat, s = (a : Nat) := ⟨s.toNat, by omega⟩
    have h1 := bounds_i64 hs
    have h2 := bounds_i64 hm
    exact from_in g F a m w h (by omega) (by omega) (by omega)
end Go.Proofs.Ytfibjbjheilpfaa
