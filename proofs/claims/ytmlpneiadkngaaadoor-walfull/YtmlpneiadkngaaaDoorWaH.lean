/- A log in memory; what package wal's small calls do: contracts. -/
import Derived.Test.YtmlpneiadkngaaaDoorWaF
namespace Go.Proofs.YtmlpneiadkngaaaDoor
open Go.RowKit

/-- a log in memory: its disk, its area, its generation, is it dead -/
def Lg (w : World) (gl g ar gn : Nat) (dead : Bool) : Prop :=
  w.heap[gl]? = some (.cells #[.pointer (some ⟨g, 0, none⟩), .int .i64 ar, .int .u64 gn, .bool dead] 65 (0, 0))
theorem Lg.later {w w' : World} {gl g ar gn : Nat} {dead : Bool} (h : Lg w gl g ar gn dead) (hb : Below w.heap.size w w') : Lg w' gl g ar gn dead := by
  unfold Lg at *
  rw [hb.block gl (heap_lt h)]
  exact h
theorem Lg.frm {w w' : World} {S : Nat → Prop} {gl g ar gn : Nat} {dead : Bool} (h : Lg w gl g ar gn dead) (hf : Frm S w w') (hn : ¬ S gl) : Lg w' gl g ar gn dead := by
  unfold Lg at *
  rw [hf.block gl (heap_lt h) hn]
  exact h
theorem G.frm {w w' : World} {S : Nat → Prop} (h : G w) (hf : Frm S w w') (hn : ¬ S 0) : G w' := hf.cell h hn
theorem Lg.pos {w : World} {gl g ar gn : Nat} {dead : Bool} (h : Lg w gl g ar gn dead) (hg : G w) : gl ≠ 0 := by
  intro e
  subst e
  have h1 : w.cell? ⟨0, 0, none⟩ = some (.pointer (some ⟨g, 0, none⟩)) := cell_of_heap h rfl
  unfold G at hg
  rw [h1] at hg
  simp at hg

theorem is_err (c : Nat) (v : Value) (w : World) (hg : G w) (h : Err w c v) :
    Calls Tryd.prog 24 #[v, .int .i64 12] w fun e w' => e = .returned (.bool (decide (c = 12))) ∧ Below w.heap.size w w' := by
  rcases h with ⟨rfl, rfl⟩ | ⟨hc, qs, hv⟩
  · exact fis_nil 12 w
  · refine (fis_any c 12 qs v w hg hv).mono ?_
    rintro e w' ⟨rfl, hb⟩
    refine ⟨?_, hb⟩
    congr 2
    rw [Bool.eq_iff_iff]
    simp
    omega

theorem dead_nil (w : World) : Calls Tryd.prog 19 #[.pointer none] w fun e w' => e = .returned (.bool true) ∧ w' = w := by
  go_enter Tryd.func19, Tryd.ntmps19
  go_wp2
  go_ret
  exact ⟨rfl, rfl⟩
theorem dead_any (gl g ar gn : Nat) (dead : Bool) (w : World) (h : Lg w gl g ar gn dead) : Calls Tryd.prog 19 #[.pointer (some ⟨gl, 0, none⟩)] w fun e w' => e = .returned (.bool dead) ∧ w' = w := by
  have c3 : w.cell? ⟨gl, 3, none⟩ = some (.bool dead) := cell_of_heap h rfl
  go_enter Tryd.func19, Tryd.ntmps19
  go_wp2
  go_ret
  exact ⟨rfl, rfl⟩
theorem lcheck_nil (w : World) : Calls Tryd.prog 29 #[.pointer none] w fun e w' => e = .returned (.int .i64 2) ∧ w' = w := by
  go_enter Tryd.func29, Tryd.ntmps29
  go_wp2
  go_ret
  exact ⟨rfl, rfl⟩
theorem lcheck_live (gl g ar gn : Nat) (w : World) (h : Lg w gl g ar gn false) : Calls Tryd.prog 29 #[.pointer (some ⟨gl, 0, none⟩)] w fun e w' => e = .returned (.int .i64 0) ∧ w' = w := by
  have c3 : w.cell? ⟨gl, 3, none⟩ = some (.bool false) := cell_of_heap h rfl
  go_enter Tryd.func29, Tryd.ntmps29
  go_wp2
  go_ret
  exact ⟨rfl, rfl⟩
theorem gen_nil (w : World) : Calls Tryd.prog 9 #[.pointer none] w fun e w' => e = .returned (.int .u64 0) ∧ w' = w := by
  go_enter Tryd.func9, Tryd.ntmps9
  go_wp2_with fail
  refine (dead_nil w).mono ?_
  rintro e w1 ⟨rfl, hw⟩
  subst w1
  go_wp2
  go_ret
  exact ⟨rfl, rfl⟩
theorem gen_any (gl g ar gn : Nat) (w : World) (h : Lg w gl g ar gn false) : Calls Tryd.prog 9 #[.pointer (some ⟨gl, 0, none⟩)] w fun e w' => e = .returned (.int .u64 gn) ∧ w' = w := by
  have c2 : w.cell? ⟨gl, 2, none⟩ = some (.int .u64 gn) := cell_of_heap h rfl
  go_enter Tryd.func9, Tryd.ntmps9
  go_wp2_with fail
  refine (dead_any gl g ar gn false w h).mono ?_
  rintro e w1 ⟨rfl, hw⟩
  subst w1
  go_wp2
  go_ret
  exact ⟨rfl, rfl⟩
theorem lroom_nil (w : World) : Calls Tryd.prog 18 #[.pointer none] w fun e w' => e = .returned (.int .i64 0) ∧ w' = w := by
  go_enter Tryd.func18, Tryd.ntmps18
  go_wp2_with fail
  refine (dead_nil w).mono ?_
  rintro e w1 ⟨rfl, hw⟩
  subst w1
  go_wp2
  go_ret
  exact ⟨rfl, rfl⟩
theorem add_nil (p : Value) (w : World) : Calls Tryd.prog 15 #[.pointer none, p] w fun e w' => e = .returned (.int .i64 2) ∧ w' = w := by
  go_enter Tryd.func15, Tryd.ntmps15
  go_wp2_with fail
  refine (lcheck_nil w).mono ?_
  rintro e w1 ⟨rfl, hw⟩
  subst w1
  go_wp2
  go_ret
  exact ⟨rfl, rfl⟩
theorem sync_nil (w : World) : Calls Tryd.prog 16 #[.pointer none] w fun e w' => e = .returned (.int .i64 2) ∧ w' = w := by
  go_enter Tryd.func16, Tryd.ntmps16
  go_wp2_with fail
  refine (lcheck_nil w).mono ?_
  rintro e w1 ⟨rfl, hw⟩
  subst w1
  go_wp2
  go_ret
  exact ⟨rfl, rfl⟩
theorem compact_nil (l : Value) (w : World) : Calls Tryd.prog 17 #[.pointer none, l] w fun e w' => e = .returned (.int .i64 2) ∧ w' = w := by
  go_enter Tryd.func17, Tryd.ntmps17
  go_wp2_with fail
  refine (lcheck_nil w).mono ?_
  rintro e w1 ⟨rfl, hw⟩
  subst w1
  go_wp2
  go_ret
  exact ⟨rfl, rfl⟩
theorem open_nil (w : World) : Calls Tryd.prog 8 #[.pointer none] w fun e w' => e = .returned (.tuple #[.pointer none, .slice none 0 0, .int .i64 2]) ∧ w' = w := by
  go_enter Tryd.func8, Tryd.ntmps8
  go_wp2
  go_returns
  exact ⟨rfl, rfl⟩

theorem told_any (gl g ar gn : Nat) (dead : Bool) (c : Nat) (v : Value) (w : World) (hg : G w) (hl : Lg w gl g ar gn dead) (he : Err w c v) :
    Calls Tryd.prog 31 #[.pointer (some ⟨gl, 0, none⟩), v] w fun e w' => e = .returned (.int .i64 c) ∧ Lg w' gl g ar gn (if c = 12 then true else dead) ∧ Frm (· = gl) w w' := by
  have hgl := hl.pos hg
  by_cases h12 : c = 12
  · subst h12
    rw [if_pos rfl]
    go_enter Tryd.func31, Tryd.ntmps31
    go_wp2_with fail
    refine (is_err 12 v w hg he).mono ?_
    rintro e w1 ⟨rfl, hb1⟩
    rw [show decide (12 = 12) = true from rfl]
    have hl1 := hl.later hb1
    have c3 : w1.cell? ⟨gl, 3, none⟩ = some (.bool dead) := cell_of_heap hl1 rfl
    have f3 : w1.frozen? ⟨gl, 3, none⟩ = false := frozen_heap hl1
    have hF : Frm (· = gl) w1 (w1.setCell ⟨gl, 3, none⟩ (.bool true)) := Frm.one _ _ _ _
    have he2 := (he.later hb1).frm hF hl1 (by simp)
    have hg2 := (hg.later hb1).frm hF (fun e => hgl e.symm)
    have hl2 : Lg (w1.setCell ⟨gl, 3, none⟩ (.bool true)) gl g ar gn true := heap_setCell_same w1 gl 3 _ 65 _ hl1
    have HF : Hid (Frm (· = gl) w (w1.setCell ⟨gl, 3, none⟩ (.bool true))) := (Frm.of_later hb1 _).trans hF
    have HL2 : Hid (Lg _ gl g ar gn true) := hl2
    clear hF hl2 hl hl1
    go_wp2_with fail
    refine (code_err 12 v _ hg2 he2).mono ?_
    rintro e w2 ⟨rfl, hb2⟩
    go_wp2
    go_ret
    exact ⟨rfl, HL2.out.later hb2, HF.out.trans (Frm.of_later hb2 _)⟩
  · rw [if_neg h12]
    go_enter Tryd.func31, Tryd.ntmps31
    go_wp2_with fail
    refine (is_err c v w hg he).mono ?_
    rintro e w1 ⟨rfl, hb1⟩
    rw [decide_eq_false h12]
    go_wp2_with fail
    refine (code_err c v _ (hg.later hb1) (he.later hb1)).mono ?_
    rintro e w2 ⟨rfl, hb2⟩
    go_wp2
    go_ret
    have hb := hb1.trans (hb2.mono hb1.size)
    exact ⟨rfl, hl.later hb, Frm.of_later hb _⟩
end Go.Proofs.YtmlpneiadkngaaaDoor
