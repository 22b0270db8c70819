/- The chapter's example. -/
import Derived.Test.YtlefaicdcomkjaaLiF
namespace Go.Proofs.Ytlefaicdcomkjaa
open Go Go.RowKit
set_option linter.unusedVariables false
set_option linter.unusedSimpArgs false

theorem At.arr {α : Type} {f : α → List Value} {w : World} {g : Nat} {cs : Array Value} {e : TypeId} {mk : Nat × Nat} {l : List α} (hh : w.heap[g]? = some (.cells cs e mk)) (hc : cs.toList = l.flatMap f) : At f w (some ⟨g, 0, none⟩) l := by
  refine And.intro (fun e => by cases e) (fun ad e => ?_)
  simp only [Option.some.injEq] at e
  subst e
  refine ⟨rfl, fun j u hu => ?_⟩
  rw [Addr.add_lit, Nat.zero_add]
  refine cell_of_heap hh ?_
  rw [← Array.getElem?_toList, hc]
  exact hu
theorem below_drews {B : Nat} {a w : World} (h : Below B a w) (n : Nat) : Below B a (w.drewN n) := ⟨h.os, h.tape, h.output, h.size, h.block⟩
abbrev awA : Lo := [] ++ [(1, 1)]
abbrev awB : Lo := awA ++ [(1, 1)]
abbrev awC : Lo := awB ++ [(2, 1)]
theorem aw_f : fitsB (flatL awC) 2 1 = true := by rw [fitsB, epL, loL_flat, flatL_length]; decide
theorem aw_s : sameL (flatL awC) 1 (flatL [(1, 1), (3, 1)]) = 1 := by
  rw [sameL, loL_flat, loL_flat, flatL_length]; decide
theorem keep_below {w w' w0 : World} {g : Nat} {ob : Option Nat} (hb : Below g w0 w) (hg : g ≤ w.heap.size) (hk : Kp w w' g ob) (ho : ∀ k, ob = some k → g ≤ k) : Below g w0 w' := hb.trans (hk.below hg (Nat.le_refl _) ho)
theorem ob_next {w : World} {g : Nat} {ob ob' : Option Nat} (h : ob' = ob ∨ ∃ k, ob' = some k ∧ w.heap.size ≤ k) (hg : g ≤ w.heap.size) (ho : ∀ k, ob = some k → g ≤ k) : ∀ k, ob' = some k → g ≤ k := by
  intro k hk
  rcases h with h | ⟨q, h, hq⟩
  · exact ho k (h.symm.trans hk)
  · rw [h] at hk
    simp only [Option.some.injEq] at hk
    omega
set_option maxRecDepth 100000 in
set_option maxHeartbeats 4000000 in
theorem awake_any (w : World) : Calls Try.prog 20 #[] w fun e w' => e = .returned (.bool true) ∧ Below w.heap.size w w' := by
  go_enter Try.func20, Try.ntmps20
  go_wp2_with fail
  refine (new_any w).mono ?_
  rintro e w0 ⟨rfl, hL, hb⟩
  generalize hg : w.heap.size = g at *
  have HE : Hid (w.heap.size = g) := hg
  have HL : Hid (Lg w0 g none (flatL [])) := hL
  have HB : Hid (Below g w w0) := hb
  have HO : Hid (∀ k, (none : Option Nat) = some k → g ≤ k) := fun k e => by cases e
  clear hg hL hb
  go_wp2_with fail
  refine (one_any 1 w0).mono ?_
  rintro e w1 ⟨rfl, hb⟩
  have HL1 : Hid (Lg w1 g none (flatL [])) := HL.out.later hb
  have HB1 : Hid (Below g w w1) := HB.out.trans (hb.mono (Nat.le_of_lt HL.out.lt))
  clear hb HL HB
  go_wp2_with fail
  refine (addF_any g none [] 1 1 0 w1 HL1.out (by simp) (by omega) (by omega) (by decide) (by omega)).mono ?_
  rintro e w2 ⟨rfl, oa, hL, hk, ho⟩
  have HL2 : Hid (Lg w2 g oa (flatL awA)) := hL
  have HB2 : Hid (Below g w w2) := keep_below HB1.out (Nat.le_of_lt HL1.out.lt) hk HO.out
  have HO2 : Hid (∀ k, oa = some k → g ≤ k) := ob_next ho (Nat.le_of_lt HL1.out.lt) HO.out
  clear hL hk ho HL1 HB1 HO
  go_wp2_with fail
  refine (one_any 1 w2).mono ?_
  rintro e w3 ⟨rfl, hb⟩
  have HL3 : Hid (Lg w3 g oa (flatL awA)) := HL2.out.later hb
  have HB3 : Hid (Below g w w3) := HB2.out.trans (hb.mono (Nat.le_of_lt HL2.out.lt))
  clear hb HL2 HB2
  go_wp2_with fail
  refine (addF_any g oa awA 1 1 1 w3 HL3.out (by simp) (by omega) (by omega) (by decide) (by omega)).mono ?_
  rintro e w4 ⟨rfl, oc, hL, hk, ho⟩
  have HL4 : Hid (Lg w4 g oc (flatL awB)) := hL
  have HB4 : Hid (Below g w w4) := keep_below HB3.out (Nat.le_of_lt HL3.out.lt) hk HO2.out
  have HO4 : Hid (∀ k, oc = some k → g ≤ k) := ob_next ho (Nat.le_of_lt HL3.out.lt) HO2.out
  clear hL hk ho HL3 HB3 HO2
  go_wp2_with fail
  refine (one_any 2 w4).mono ?_
  rintro e w5 ⟨rfl, hb⟩
  have HL5 : Hid (Lg w5 g oc (flatL awB)) := HL4.out.later hb
  have HB5 : Hid (Below g w w5) := HB4.out.trans (hb.mono (Nat.le_of_lt HL4.out.lt))
  clear hb HL4 HB4
  go_wp2_with fail
  refine (addF_any g oc awB 2 1 1 w5 HL5.out (by simp) (by omega) (by omega) (by decide) (by omega)).mono ?_
  rintro e w6 ⟨rfl, od, hL, hk, ho⟩
  have HL6 : Hid (Lg w6 g od (flatL awC)) := hL
  have HB6 : Hid (Below g w w6) := keep_below HB5.out (Nat.le_of_lt HL5.out.lt) hk HO4.out
  clear hL hk ho HL5 HB5 HO4
  have hf := fits_any g od (flatL awC) 2 1 w6 HL6.out (by simp [flatL])
  rw [aw_f] at hf
  go_wp2_with fail
  refine hf.mono ?_
  clear hf
  rintro e wz ⟨rfl, hwz⟩
  subst wz
  go_wp2_with fail
  refine (one_any 1 w6).mono ?_
  rintro e w7 ⟨rfl, hb⟩
  have HL7 : Hid (Lg w7 g od (flatL awC)) := HL6.out.later hb
  have HB7 : Hid (Below g w w7) := HB6.out.trans (hb.mono (Nat.le_of_lt HL6.out.lt))
  clear hb HL6 HB6
  go_wp2_with fail
  refine (one_any 3 w7).mono ?_
  rintro e w8 ⟨rfl, hb⟩
  have HL8 : Hid (Lg w8 g od (flatL awC)) := HL7.out.later hb
  have HB8 : Hid (Below g w w8) := HB7.out.trans (hb.mono (Nat.le_of_lt HL7.out.lt))
  clear hb HL7 HB7
  go_wp2_with fail
  have ha : Below w8.heap.size w8 (w8.alloc (.cells #[.int .u64 1, .int .i64 2, .int .i64 0, .int .u64 0, .bool false, .slice none 0 0, .slice none 0 0, .int .i64 0, .int .u64 1, .int .i64 0, .int .u64 3, .int .i64 2, .int .i64 0, .int .u64 0, .bool false, .slice none 0 0, .slice none 0 0, .int .i64 0, .int .u64 1, .int .i64 0] 45)) := (Below.refl _ _).alloc (Nat.le_refl _) _
  have hat := At.arr (f := Ev.cells) (l := flatL [(1, 1), (3, 1)]) (heap_alloc_new w8 (.cells #[.int .u64 1, .int .i64 2, .int .i64 0, .int .u64 0, .bool false, .slice none 0 0, .slice none 0 0, .int .i64 0, .int .u64 1, .int .i64 0, .int .u64 3, .int .i64 2, .int .i64 0, .int .u64 0, .bool false, .slice none 0 0, .slice none 0 0, .int .i64 0, .int .u64 1, .int .i64 0] 45)) rfl
  have hs := same_any g od (flatL awC) 1 (some ⟨w8.heap.size, 0, none⟩) 2 2 (flatL [(1, 1), (3, 1)]) _ (HL8.out.later ha) (by simp [flatL]) hat rfl (by simp [flatL]) (by omega)
  rw [aw_s] at hs
  have HB9 : Hid (Below g w (w8.alloc (.cells #[.int .u64 1, .int .i64 2, .int .i64 0, .int .u64 0, .bool false, .slice none 0 0, .slice none 0 0, .int .i64 0, .int .u64 1, .int .i64 0, .int .u64 3, .int .i64 2, .int .i64 0, .int .u64 0, .bool false, .slice none 0 0, .slice none 0 0, .int .i64 0, .int .u64 1, .int .i64 0] 45))) := HB8.out.trans (ha.mono (Nat.le_of_lt HL8.out.lt))
  refine hs.mono ?_
  clear hs hat ha
  rintro e w10 ⟨rfl, n, rfl⟩
  have hf0 := below_drews HB9.out n
  have HF : Hid _ := hf0
  clear hf0 HB9 HB8 HL8
  go_wp2
  go_ret
  exact ⟨rfl, by rw [HE.out]; exact HF.out⟩
end Go.Proofs.Ytlefaicdcomkjaa
