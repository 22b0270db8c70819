/- The chapter's example of an object: x at 3, gone at 5. -/
import Derived.Test.YtmahigfamgbhfaaObN
import Derived.Test.YtmahigfamgbhfaaObG
namespace Go.Proofs.Ytmahigfamgbhfaa
open Go.RowKit
set_option linter.unusedVariables false

theorem Ob.isSlice {w : World} {u : Value} {l : List Ver} (h : Ob w u l) : ∃ a n c, u = .slice a n c := by
  obtain ⟨a, c, e, -⟩ := h
  exact ⟨_, _, _, e⟩
/-- a variable that holds an object -/
def VarO (w : World) (p : Nat) (u : Value) : Prop := w.heap[p]? = some (.cells #[u] 25)
theorem VarO.cell {w : World} {p : Nat} {u : Value} (h : VarO w p u) : w.cell? ⟨p, 0, none⟩ = some u := cell_of_heap h rfl
theorem VarO.lt {w : World} {p : Nat} {u : Value} (h : VarO w p u) : p < w.heap.size := (Array.getElem?_eq_some_iff.1 h).1
theorem VarO.later {w wx : World} {p : Nat} {u : Value} (h : VarO w p u) (hb : Below w.heap.size w wx) : VarO wx p u := by
  unfold VarO
  rw [hb.block p h.lt]
  exact h

def aw1 : List Ver := [⟨3, 1, ⟨#[120]⟩, false⟩]
def aw2 : List Ver := [⟨3, 1, ⟨#[120]⟩, false⟩, ⟨5, 2, ⟨#[]⟩, true⟩]
theorem aw_may1 : may ⟨#[120]⟩ false = true := by decide +kernel
theorem aw_may2 : may ⟨#[]⟩ true = true := by decide +kernel
theorem aw_right0 : rightL [] = true := by decide +kernel
theorem aw_right1 : rightL aw1 = true := by decide +kernel
theorem aw_right2 : rightL aw2 = true := by decide +kernel
theorem aw_e1 : ([] : List Ver) ++ [⟨3, (lastL []).num + 1, ⟨#[120]⟩, false⟩] = aw1 := rfl
theorem aw_e2 : aw1 ++ [⟨5, (lastL aw1).num + 1, ⟨#[]⟩, true⟩] = aw2 := rfl
theorem aw_r4 : readV aw2 4 = ⟨3, 1, ⟨#[120]⟩, false⟩ := rfl
theorem aw_r5 : readV aw2 5 = ⟨5, 2, ⟨#[]⟩, true⟩ := rfl
theorem aw_b4 : readB aw2 4 = true := rfl
theorem aw_b5 : readB aw2 5 = true := rfl

set_option maxRecDepth 100000 in
set_option maxHeartbeats 2000000 in
theorem awake9_any (w : World) : Calls Try.prog 15 #[] w fun e w' => e = .returned (.bool true) ∧ Below w.heap.size w w' := by
  have h1 := put_ok (.slice none 0 0) [] 3 ⟨#[120]⟩ false w (Ob.nil w) aw_right0 (by decide) (by decide) (by decide) aw_may1 (by decide) (by decide)
  rw [aw_e1] at h1
  go_enter Try.func15, Try.ntmps15
  go_wp2_with fail
  refine h1.mono ?_
  clear h1
  rintro e w1 ⟨u1, rfl, ho1, hb1⟩
  obtain ⟨a1, n1, c1, rfl⟩ := ho1.isSlice
  have hB2 : Below w1.heap.size w1 (w1.alloc (.cells #[.slice a1 n1 c1] 25)) := (Below.refl _ _).alloc (Nat.le_refl _) _
  have HB2 : Hid (Below w.heap.size w (w1.alloc (.cells #[.slice a1 n1 c1] 25))) := hb1.trans (hB2.mono hb1.size)
  have h2 := put_ok (.slice a1 n1 c1) aw1 5 ⟨#[]⟩ true _ (ho1.later hB2) aw_right1 (by decide) (by decide) (by decide) aw_may2 (by decide) (by decide)
  rw [aw_e2] at h2
  clear hb1 hB2 ho1
  go_wp2_with fail
  refine h2.mono ?_
  clear h2
  rintro e w3 ⟨u3, rfl, ho3, hb3⟩
  obtain ⟨a3, n3, c3, rfl⟩ := ho3.isSlice
  have hB4 : Below w3.heap.size w3 (w3.alloc (.cells #[.slice a3 n3 c3] 25)) := (Below.refl _ _).alloc (Nat.le_refl _) _
  have HB4 : Hid (Below w.heap.size w (w3.alloc (.cells #[.slice a3 n3 c3] 25))) := HB2.out.trans ((hb3.trans (hB4.mono hb3.size)).mono HB2.out.size)
  have ho4 := ho3.later hB4
  have hv4 : VarO (w3.alloc (.cells #[.slice a3 n3 c3] 25)) w3.heap.size (.slice a3 n3 c3) := heap_alloc_new w3 _
  clear hB4 hb3 ho3 HB2
  go_upto_region 3 with fail
  generalize w3.alloc (.cells #[.slice a3 n3 c3] 25) = w4 at *
  generalize w3.heap.size = p3 at *
  have q4 := hv4.cell
  have h4 := read_right _ aw2 4 w4 ho4 aw_right2
  rw [aw_r4, aw_b4] at h4
  go_wp2_with fail
  refine h4.mono ?_
  clear h4
  rintro e w5 ⟨rfl, hb5⟩
  have hB6 : Below w5.heap.size w5 (w5.alloc (.cells #[.int .i64 3, .int .u64 1, .string ⟨#[120]⟩, .bool false] 36)) := (Below.refl _ _).alloc (Nat.le_refl _) _
  have HB6 : Hid (Below w.heap.size w (w5.alloc (.cells #[.int .i64 3, .int .u64 1, .string ⟨#[120]⟩, .bool false] 36))) := HB4.out.trans ((hb5.trans (hB6.mono hb5.size)).mono HB4.out.size)
  have ho6 := (ho4.later hb5).later hB6
  have hv6 := (hv4.later hb5).later hB6
  have hx6 : VarV (w5.alloc (.cells #[.int .i64 3, .int .u64 1, .string ⟨#[120]⟩, .bool false] 36)) w5.heap.size 36 ⟨3, 1, ⟨#[120]⟩, false⟩ := heap_alloc_new w5 _
  clear hB6 hb5 ho4 hv4 HB4 q4
  go_upto_region 4 with fail
  generalize w5.alloc (.cells #[.int .i64 3, .int .u64 1, .string ⟨#[120]⟩, .bool false] 36) = w6 at *
  generalize w5.heap.size = p5 at *
  have q6 := hv6.cell
  have h6 := read_right _ aw2 5 w6 ho6 aw_right2
  rw [aw_r5, aw_b5] at h6
  go_wp2_with fail
  refine h6.mono ?_
  clear h6
  rintro e w7 ⟨rfl, hb7⟩
  obtain ⟨x0, x1, x2, x3⟩ := (hx6.later hb7).cells
  have HB7 : Hid (Below w.heap.size w w7) := HB6.out.trans (hb7.mono HB6.out.size)
  have hlt : p5 < w7.heap.size := (hx6.later hb7).lt
  have HB8 : Hid (Below w.heap.size w (w7.alloc (.cells #[.int .i64 5, .int .u64 2, .string ⟨#[]⟩, .bool true] 36))) := HB7.out.alloc HB7.out.size _
  clear hb7 hx6 hv6 ho6 q6
  go_wp2
  go_ret
  exact ⟨rfl, HB8.out⟩
end Go.Proofs.Ytmahigfamgbhfaa
