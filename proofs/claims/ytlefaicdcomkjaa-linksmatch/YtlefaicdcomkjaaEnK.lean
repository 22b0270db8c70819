/- wrong, Right: which entries are right: contracts. -/
import Derived.Test.YtlefaicdcomkjaaEnJ
namespace Go.Proofs.Ytlefaicdcomkjaa
open Go Go.RowKit
set_option linter.unusedVariables false
set_option linter.unusedSimpArgs false

theorem eql_38 (a b : Id) (w : World) : (binOp .eql 38 (idv a) (idv b)).run Try.prog w = .ok (.bool (decide (a = b))) w := by
  have hS : Try.prog.underlying 38 = some (.struct (Try.prog.fieldsOf 38)) := by kernel_rfl
  have hp : Try.prog.stoodInHeld 38 = false := by kernel_rfl
  obtain ⟨a1, a2⟩ := a
  obtain ⟨b1, b2⟩ := b
  rw [run_eql_struct, show (10000 : Nat) = 9999 + 1 from rfl, run_equalIn_agg w 9999 38 _ _ hS hp]
  simp only [Program.fieldsOf, Try.underlying38]
  go_simp
  by_cases h1 : a1 = b1 <;> by_cases h2 : a2 = b2 <;> simp [h1, h2]
theorem neq_38 (a b : Id) (w : World) : (binOp .neq 38 (idv a) (idv b)).run Try.prog w = .ok (.bool (!decide (a = b))) w := by
  have hS : Try.prog.underlying 38 = some (.struct (Try.prog.fieldsOf 38)) := by kernel_rfl
  have hp : Try.prog.stoodInHeld 38 = false := by kernel_rfl
  obtain ⟨a1, a2⟩ := a
  obtain ⟨b1, b2⟩ := b
  rw [run_neq_struct, show (10000 : Nat) = 9999 + 1 from rfl, run_equalIn_agg w 9999 38 _ _ hS hp]
  simp only [Program.fieldsOf, Try.underlying38]
  go_simp
  by_cases h1 : a1 = b1 <;> by_cases h2 : a2 = b2 <;> simp [h1, h2]
theorem sameR_nil (a : Option Addr) (n c : Nat) (w : World) (hn : n ≤ 1000) :
    Calls Try.prog 48 #[.slice a n c, .slice none 0 0] w fun e w' => e = .returned (.bool (decide (n = 0))) ∧ w' = w := by
  by_cases h : n = 0
  · subst h
    go_enter Try.func48, Try.ntmps48
    go_wp2
    refine wp_loop_rounds 1 ?_
    rw [rounds_succ]
    go_wp2
    go_ret
    exact ⟨rfl, rfl⟩
  · have hz : ¬ (n : Int) = 0 := by omega
    have hb : ((n : Int) == 0) = false := by simp [h]
    have hb2 : ((n : Int) != 0) = true := by simp [h]
    go_enter Try.func48, Try.ntmps48
    go_wp2
    go_ret
    exact ⟨by simp [h], rfl⟩
theorem sameW_nil (a : Option Addr) (n c : Nat) (w : World) (hn : n ≤ 1000) :
    Calls Try.prog 49 #[.slice a n c, .slice none 0 0] w fun e w' => e = .returned (.bool (decide (n = 0))) ∧ w' = w := by
  by_cases h : n = 0
  · subst h
    go_enter Try.func49, Try.ntmps49
    go_wp2
    refine wp_loop_rounds 1 ?_
    rw [rounds_succ]
    go_wp2
    go_ret
    exact ⟨rfl, rfl⟩
  · have hz : ¬ (n : Int) = 0 := by omega
    have hb : ((n : Int) == 0) = false := by simp [h]
    have hb2 : ((n : Int) != 0) = true := by simp [h]
    go_enter Try.func49, Try.ntmps49
    go_wp2
    go_ret
    exact ⟨by simp [h], rfl⟩
/-- nothing in it -/
def noTxn (id : Id) (plain : Bool) (n m : Nat) : Bool := decide (id = (0, 0)) && !plain && decide (n = 0) && decide (m = 0)
set_option maxRecDepth 100000 in
set_option maxHeartbeats 4000000 in
theorem sameNone_any (id : Id) (plain : Bool) (a1 : Option Addr) (n1 c1 : Nat) (a2 : Option Addr) (n2 c2 : Nat) (w : World) (h1 : n1 ≤ 1000) (h2 : n2 ≤ 1000) :
    Calls Try.prog 39 #[txnv id plain (.slice a1 n1 c1) (.slice a2 n2 c2), .agg #[.int .i64 0, .int .u64 0, .bool false, .slice none 0 0, .slice none 0 0]] w fun e w' => e = .returned (.bool (noTxn id plain n1 n2)) ∧ Below w.heap.size w w' := by
  have HB : Hid (Below w.heap.size w ((w.alloc (.cells #[.int .i64 id.1, .int .u64 id.2, .bool plain, .slice a1 n1 c1, .slice a2 n2 c2] 42)).alloc (.cells #[.int .i64 0, .int .u64 0, .bool false, .slice none 0 0, .slice none 0 0] 42))) := ((Below.refl _ _).alloc (Nat.le_refl _) _).alloc (by simp) _
  have hq := eql_38 id (0, 0)
  have HE : Hid (noTxn id plain n1 n2 = (decide (id = (0, 0)) && !plain && decide (n1 = 0) && decide (n2 = 0))) := rfl
  generalize noTxn id plain n1 n2 = res at *
  have HR : Hid (∀ w, Calls Try.prog 48 #[.slice a1 n1 c1, .slice none 0 0] w fun e w' => e = .returned (.bool (decide (n1 = 0))) ∧ w' = w) := fun w => sameR_nil a1 n1 c1 w h1
  have HW : Hid (∀ w, Calls Try.prog 49 #[.slice a2 n2 c2, .slice none 0 0] w fun e w' => e = .returned (.bool (decide (n2 = 0))) ∧ w' = w) := fun w => sameW_nil a2 n2 c2 w h2
  clear h1 h2
  generalize decide (n1 = 0) = d1 at *
  generalize decide (n2 = 0) = d2 at *
  generalize decide (id = (0, 0)) = d0 at *
  cases d0
  · go_enter Try.func39, Try.ntmps39
    go_wp2
    go_ret
    exact ⟨by rw [HE.out]; rfl, HB.out⟩
  · cases plain
    rotate_left
    · go_enter Try.func39, Try.ntmps39
      go_wp2
      go_ret
      exact ⟨by rw [HE.out]; rfl, HB.out⟩
    go_enter Try.func39, Try.ntmps39
    go_wp2_with fail
    refine (HR.out _).mono ?_
    rintro e w1 ⟨rfl, hw⟩
    subst hw
    cases d1
    · go_wp2
      go_ret
      exact ⟨by rw [HE.out]; rfl, HB.out⟩
    go_wp2_with fail
    refine (HW.out _).mono ?_
    rintro e w1 ⟨rfl, hw⟩
    subst hw
    cases d2
    · go_wp2
      go_ret
      exact ⟨by rw [HE.out]; rfl, HB.out⟩
    · go_wp2
      go_ret
      exact ⟨by rw [HE.out]; rfl, HB.out⟩
/-- may an entry be? -/
def rpart (tid : Id) (plain : Bool) (l1 : List Rdv) (l2 : List Wrv) (id : Id) (code : Int) : Bool := rtxn tid plain l1 l2 && decide (id = (0, 0)) && decide (code = 0)
def rcode (code : Int) : Bool := decide (code = 0) || decide (code = 8) || decide (code = 11)
def rfin (tid : Id) (plain : Bool) (n m : Nat) (id : Id) (code : Int) : Bool := noTxn tid plain n m && rid id && rcode code
def rentry (ep kd : Int) (tid : Id) (plain : Bool) (l1 : List Rdv) (l2 : List Wrv) (id : Id) (code : Int) : Bool :=
  !decide (ep = 0) && (decide (kd = 1) && rpart tid plain l1 l2 id code || decide (kd = 2) && rfin tid plain l1.length l2.length id code)
/-- a transaction's lists in memory, as the program's -/
structure Tx (w : World) (b1 : Nat) (a1 : Option Addr) (n1 c1 : Nat) (a2 : Option Addr) (n2 c2 : Nat) (l1 : List Rdv) (l2 : List Wrv) : Prop where
  r : w.ownsRow b1 95 2 (.slice a1 n1 c1) l1.length (l1.flatMap Rdv.cells)
  w : w.ownsRow b1 98 3 (.slice a2 n2 c2) l2.length (l2.flatMap Wrv.cells)
  f : Fine l1 l2
  h1 : l1.length ≤ 1000
  h2 : l2.length ≤ 1000
  e1 : n1 = l1.length
  e2 : n2 = l2.length
theorem Tx.later {w w' : World} {b1 : Nat} {a1 : Option Addr} {n1 c1 : Nat} {a2 : Option Addr} {n2 c2 : Nat} {l1 : List Rdv} {l2 : List Wrv} (h : Tx w b1 a1 n1 c1 a2 n2 c2 l1 l2) (hb : Below w.heap.size w w') : Tx w' b1 a1 n1 c1 a2 n2 c2 l1 l2 := ⟨owns_later h.r hb, owns_later h.w hb, h.f, h.h1, h.h2, h.e1, h.e2⟩
set_option maxRecDepth 100000 in
set_option maxHeartbeats 8000000 in
theorem wrongPart_any (ep kd : Int) (tid : Id) (plain : Bool) (b1 : Nat) (a1 : Option Addr) (n1 c1 : Nat) (a2 : Option Addr) (n2 c2 : Nat) (l1 : List Rdv) (l2 : List Wrv) (id : Id) (code : Int) (w : World) (h : Tx w b1 a1 n1 c1 a2 n2 c2 l1 l2) :
    Calls Try.prog 55 #[.agg #[.int .u64 ep, .int .i64 kd, .int .i64 tid.1, .int .u64 tid.2, .bool plain, .slice a1 n1 c1, .slice a2 n2 c2, .int .i64 id.1, .int .u64 id.2, .int .i64 code]] w fun e w' => (∃ r, e = .returned r ∧ ErrIs r (rpart tid plain l1 l2 id code)) ∧ Below w.heap.size w w' := by
  have hb : Below w.heap.size w (w.alloc (.cells #[.int .u64 ep, .int .i64 kd, .int .i64 tid.1, .int .u64 tid.2, .bool plain, .slice a1 n1 c1, .slice a2 n2 c2, .int .i64 id.1, .int .u64 id.2, .int .i64 code] 45)) := (Below.refl _ _).alloc (Nat.le_refl _) _
  have hn := heap_alloc_new w (.cells #[.int .u64 ep, .int .i64 kd, .int .i64 tid.1, .int .u64 tid.2, .bool plain, .slice a1 n1 c1, .slice a2 n2 c2, .int .i64 id.1, .int .u64 id.2, .int .i64 code] 45)
  have HT : Hid (Tx (w.alloc (.cells #[.int .u64 ep, .int .i64 kd, .int .i64 tid.1, .int .u64 tid.2, .bool plain, .slice a1 n1 c1, .slice a2 n2 c2, .int .i64 id.1, .int .u64 id.2, .int .i64 code] 45)) b1 a1 n1 c1 a2 n2 c2 l1 l2) := h.later hb
  have HB : Hid (Below w.heap.size w (w.alloc (.cells #[.int .u64 ep, .int .i64 kd, .int .i64 tid.1, .int .u64 tid.2, .bool plain, .slice a1 n1 c1, .slice a2 n2 c2, .int .i64 id.1, .int .u64 id.2, .int .i64 code] 45))) := hb
  have HN : Hid ((w.alloc (.cells #[.int .u64 ep, .int .i64 kd, .int .i64 tid.1, .int .u64 tid.2, .bool plain, .slice a1 n1 c1, .slice a2 n2 c2, .int .i64 id.1, .int .u64 id.2, .int .i64 code] 45)).heap[w.heap.size]? = some (.cells #[.int .u64 ep, .int .i64 kd, .int .i64 tid.1, .int .u64 tid.2, .bool plain, .slice a1 n1 c1, .slice a2 n2 c2, .int .i64 id.1, .int .u64 id.2, .int .i64 code] 45)) := hn
  clear h hb hn
  have hq := neq_38 id (0, 0)
  by_cases h1 : id = (0, 0)
  rotate_left
  · have HX : Hid (rpart tid plain l1 l2 id code = false) := by simp [Hid, rpart, h1]
    rw [decide_eq_false h1] at hq
    go_enter Try.func55, Try.ntmps55
    go_wp2_with fail
    refine (fnew_any _ 1 _ (by decide)).mono ?_
    rintro e wz ⟨⟨tu, vu, rfl⟩, hbz⟩
    have HBZ : Hid (Below w.heap.size w wz) := HB.out.trans (hbz.mono HB.out.size)
    clear hbz
    go_wp2
    go_ret
    exact ⟨⟨_, rfl, ErrIs.bad HX.out⟩, HBZ.out⟩
  rw [decide_eq_true h1] at hq
  by_cases h2 : code = 0
  rotate_left
  · have HX : Hid (rpart tid plain l1 l2 id code = false) := by simp [Hid, rpart, h2]
    have hc : (code == 0) = false := by simp [h2]
    have hc2 : (code != 0) = true := by simp [h2]
    clear h1
    go_enter Try.func55, Try.ntmps55
    go_wp2_with fail
    refine (fnew_any _ 1 _ (by decide)).mono ?_
    rintro e wz ⟨⟨tu, vu, rfl⟩, hbz⟩
    have HBZ : Hid (Below w.heap.size w wz) := HB.out.trans (hbz.mono HB.out.size)
    clear hbz
    go_wp2
    go_ret
    exact ⟨⟨_, rfl, ErrIs.bad HX.out⟩, HBZ.out⟩
  have HX : Hid (rpart tid plain l1 l2 id code = rtxn tid plain l1 l2) := by simp [Hid, rpart, h1, h2]
  have hc : (code == 0) = true := by simp [h2]
  have hc2 : (code != 0) = false := by simp [h2]
  clear h1 h2
  have q := wrongTxn_any tid plain b1 (.slice a1 n1 c1) (.slice a2 n2 c2) l1 l2 _ HT.out.r HT.out.w HT.out.f HT.out.h1 HT.out.h2
  go_enter Try.func55, Try.ntmps55
  go_wp2_with fail
  refine q.mono ?_
  clear q
  rintro e w1 ⟨⟨r, rfl, hr⟩, hb1⟩
  have HB1 : Hid (Below w.heap.size w w1) := HB.out.trans (hb1.mono HB.out.size)
  have HRR : Hid (ErrIs r (rtxn tid plain l1 l2)) := hr
  clear hb1 hr
  go_wp2
  go_ret
  exact ⟨⟨_, rfl, by rw [HX.out]; exact HRR.out⟩, HB1.out⟩
set_option maxRecDepth 100000 in
set_option maxHeartbeats 8000000 in
theorem wrongFinish_any (ep kd : Int) (tid : Id) (plain : Bool) (b1 : Nat) (a1 : Option Addr) (n1 c1 : Nat) (a2 : Option Addr) (n2 c2 : Nat) (l1 : List Rdv) (l2 : List Wrv) (id : Id) (code : Int) (w : World) (h : Tx w b1 a1 n1 c1 a2 n2 c2 l1 l2) :
    Calls Try.prog 56 #[.agg #[.int .u64 ep, .int .i64 kd, .int .i64 tid.1, .int .u64 tid.2, .bool plain, .slice a1 n1 c1, .slice a2 n2 c2, .int .i64 id.1, .int .u64 id.2, .int .i64 code]] w fun e w' => (∃ r, e = .returned r ∧ ErrIs r (rfin tid plain l1.length l2.length id code)) ∧ Below w.heap.size w w' := by
  have he1 := h.e1
  have he2 := h.e2
  have hh1 := h.h1
  have hh2 := h.h2
  subst he1 he2
  have hb : Below w.heap.size w (w.alloc (.cells #[.int .u64 ep, .int .i64 kd, .int .i64 tid.1, .int .u64 tid.2, .bool plain, .slice a1 l1.length c1, .slice a2 l2.length c2, .int .i64 id.1, .int .u64 id.2, .int .i64 code] 45)) := (Below.refl _ _).alloc (Nat.le_refl _) _
  have hn := heap_alloc_new w (.cells #[.int .u64 ep, .int .i64 kd, .int .i64 tid.1, .int .u64 tid.2, .bool plain, .slice a1 l1.length c1, .slice a2 l2.length c2, .int .i64 id.1, .int .u64 id.2, .int .i64 code] 45)
  have HT : Hid (Tx (w.alloc (.cells #[.int .u64 ep, .int .i64 kd, .int .i64 tid.1, .int .u64 tid.2, .bool plain, .slice a1 l1.length c1, .slice a2 l2.length c2, .int .i64 id.1, .int .u64 id.2, .int .i64 code] 45)) b1 a1 l1.length c1 a2 l2.length c2 l1 l2) := h.later hb
  have HB : Hid (Below w.heap.size w (w.alloc (.cells #[.int .u64 ep, .int .i64 kd, .int .i64 tid.1, .int .u64 tid.2, .bool plain, .slice a1 l1.length c1, .slice a2 l2.length c2, .int .i64 id.1, .int .u64 id.2, .int .i64 code] 45))) := hb
  have HN : Hid ((w.alloc (.cells #[.int .u64 ep, .int .i64 kd, .int .i64 tid.1, .int .u64 tid.2, .bool plain, .slice a1 l1.length c1, .slice a2 l2.length c2, .int .i64 id.1, .int .u64 id.2, .int .i64 code] 45)).heap[w.heap.size]? = some (.cells #[.int .u64 ep, .int .i64 kd, .int .i64 tid.1, .int .u64 tid.2, .bool plain, .slice a1 l1.length c1, .slice a2 l2.length c2, .int .i64 id.1, .int .u64 id.2, .int .i64 code] 45)) := hn
  clear h hb hn
  have q := sameNone_any tid plain a1 l1.length c1 a2 l2.length c2 (w.alloc (.cells #[.int .u64 ep, .int .i64 kd, .int .i64 tid.1, .int .u64 tid.2, .bool plain, .slice a1 l1.length c1, .slice a2 l2.length c2, .int .i64 id.1, .int .u64 id.2, .int .i64 code] 45)) (by omega) (by omega)
  generalize hw0 : w.alloc (.cells #[.int .u64 ep, .int .i64 kd, .int .i64 tid.1, .int .u64 tid.2, .bool plain, .slice a1 l1.length c1, .slice a2 l2.length c2, .int .i64 id.1, .int .u64 id.2, .int .i64 code] 45) = w0 at *
  have e2 : w0.cell? ⟨w.heap.size, 2, none⟩ = some (.int .i64 tid.1) := cell_of_heap HN.out rfl
  have e3 : w0.cell? ⟨w.heap.size, 3, none⟩ = some (.int .u64 tid.2) := cell_of_heap HN.out rfl
  have e4 : w0.cell? ⟨w.heap.size, 4, none⟩ = some (.bool plain) := cell_of_heap HN.out rfl
  have e5 : w0.cell? ⟨w.heap.size, 5, none⟩ = some (.slice a1 l1.length c1) := cell_of_heap HN.out rfl
  have e6 : w0.cell? ⟨w.heap.size, 6, none⟩ = some (.slice a2 l2.length c2) := cell_of_heap HN.out rfl
  go_enter Try.func56, Try.ntmps56
  go_wp2_with fail
  refine q.mono ?_
  clear q
  rintro e w1 ⟨rfl, hb1⟩
  clear hw0
  have HB1 : Hid (Below w.heap.size w w1) := HB.out.trans (hb1.mono HB.out.size)
  have HN1 : Hid (w1.heap[w.heap.size]? = some (.cells #[.int .u64 ep, .int .i64 kd, .int .i64 tid.1, .int .u64 tid.2, .bool plain, .slice a1 l1.length c1, .slice a2 l2.length c2, .int .i64 id.1, .int .u64 id.2, .int .i64 code] 45)) := (hb1.block _ (Array.getElem?_eq_some_iff.1 HN.out).1).trans HN.out
  clear hb1 HB HN HT e2 e3 e4 e5 e6
  cases hnt : noTxn tid plain l1.length l2.length
  · have HX : Hid (rfin tid plain l1.length l2.length id code = false) := by simp [Hid, rfin, hnt]
    clear hnt
    go_wp2_with fail
    refine (fnew_any _ 1 w1 (by decide)).mono ?_
    rintro e wz ⟨⟨tu, vu, rfl⟩, hbz⟩
    have HBZ : Hid (Below w.heap.size w wz) := HB1.out.trans (hbz.mono HB1.out.size)
    clear hbz
    go_wp2
    go_ret
    exact ⟨⟨_, rfl, ErrIs.bad HX.out⟩, HBZ.out⟩
  have e7 : w1.cell? ⟨w.heap.size, 7, none⟩ = some (.int .i64 id.1) := cell_of_heap HN1.out rfl
  have e8 : w1.cell? ⟨w.heap.size, 8, none⟩ = some (.int .u64 id.2) := cell_of_heap HN1.out rfl
  go_wp2_with fail
  refine (rightID_any id w1).mono ?_
  rintro e w2 ⟨rfl, hb2⟩
  have HB2 : Hid (Below w.heap.size w w2) := HB1.out.trans (hb2.mono HB1.out.size)
  have HN2 : Hid (w2.heap[w.heap.size]? = some (.cells #[.int .u64 ep, .int .i64 kd, .int .i64 tid.1, .int .u64 tid.2, .bool plain, .slice a1 l1.length c1, .slice a2 l2.length c2, .int .i64 id.1, .int .u64 id.2, .int .i64 code] 45)) := (hb2.block _ (Array.getElem?_eq_some_iff.1 HN1.out).1).trans HN1.out
  clear hb2 HB1 HN1 e7 e8
  cases hri : rid id
  · have HX : Hid (rfin tid plain l1.length l2.length id code = false) := by simp [Hid, rfin, hri]
    clear hnt hri
    go_wp2_with fail
    refine (fnew_any _ 1 w2 (by decide)).mono ?_
    rintro e wz ⟨⟨tu, vu, rfl⟩, hbz⟩
    have HBZ : Hid (Below w.heap.size w wz) := HB2.out.trans (hbz.mono HB2.out.size)
    clear hbz
    go_wp2
    go_ret
    exact ⟨⟨_, rfl, ErrIs.bad HX.out⟩, HBZ.out⟩
  have e9 : w2.cell? ⟨w.heap.size, 9, none⟩ = some (.int .i64 code) := cell_of_heap HN2.out rfl
  have HX : Hid (rfin tid plain l1.length l2.length id code = rcode code) := by simp [Hid, rfin, hri, hnt]
  clear hnt hri HN2
  by_cases k0 : code = 0
  · have HZ : Hid (rcode code = true) := by simp [Hid, rcode, k0]
    have q0 : (code == 0) = true := by simp [k0]
    clear k0
    go_wp2
    go_ret
    exact ⟨⟨_, rfl, ErrIs.good (by rw [HX.out, HZ.out])⟩, HB2.out⟩
  have q0 : (code == 0) = false := by simp [k0]
  by_cases k8 : code = 8
  · have HZ : Hid (rcode code = true) := by simp [Hid, rcode, k8]
    have q8 : (code == 8) = true := by simp [k8]
    clear k0 k8
    go_wp2
    go_ret
    exact ⟨⟨_, rfl, ErrIs.good (by rw [HX.out, HZ.out])⟩, HB2.out⟩
  have q8 : (code == 8) = false := by simp [k8]
  by_cases k11 : code = 11
  · have HZ : Hid (rcode code = true) := by simp [Hid, rcode, k11]
    have q11 : (code == 11) = true := by simp [k11]
    clear k0 k8 k11
    go_wp2
    go_ret
    exact ⟨⟨_, rfl, ErrIs.good (by rw [HX.out, HZ.out])⟩, HB2.out⟩
  have q11 : (code == 11) = false := by simp [k11]
  have HZ : Hid (rfin tid plain l1.length l2.length id code = false) := by rw [Hid, HX.out]; simp [rcode, k0, k8, k11]
  clear k0 k8 k11
  go_wp2_with fail
  refine (fnew_any _ 1 w2 (by decide)).mono ?_
  rintro e wz ⟨⟨tu, vu, rfl⟩, hbz⟩
  have HBZ : Hid (Below w.heap.size w wz) := HB2.out.trans (hbz.mono HB2.out.size)
  clear hbz
  go_wp2
  go_ret
  exact ⟨⟨_, rfl, ErrIs.bad HZ.out⟩, HBZ.out⟩
set_option maxRecDepth 100000 in
set_option maxHeartbeats 8000000 in
theorem wrong_any (ep kd : Int) (tid : Id) (plain : Bool) (b1 : Nat) (a1 : Option Addr) (n1 c1 : Nat) (a2 : Option Addr) (n2 c2 : Nat) (l1 : List Rdv) (l2 : List Wrv) (id : Id) (code : Int) (w : World) (h : Tx w b1 a1 n1 c1 a2 n2 c2 l1 l2) :
    Calls Try.prog 50 #[.agg #[.int .u64 ep, .int .i64 kd, .int .i64 tid.1, .int .u64 tid.2, .bool plain, .slice a1 n1 c1, .slice a2 n2 c2, .int .i64 id.1, .int .u64 id.2, .int .i64 code]] w fun e w' => (∃ r, e = .returned r ∧ ErrIs r (rentry ep kd tid plain l1 l2 id code)) ∧ Below w.heap.size w w' := by
  have hb : Below w.heap.size w (w.alloc (.cells #[.int .u64 ep, .int .i64 kd, .int .i64 tid.1, .int .u64 tid.2, .bool plain, .slice a1 n1 c1, .slice a2 n2 c2, .int .i64 id.1, .int .u64 id.2, .int .i64 code] 45)) := (Below.refl _ _).alloc (Nat.le_refl _) _
  have hn := heap_alloc_new w (.cells #[.int .u64 ep, .int .i64 kd, .int .i64 tid.1, .int .u64 tid.2, .bool plain, .slice a1 n1 c1, .slice a2 n2 c2, .int .i64 id.1, .int .u64 id.2, .int .i64 code] 45)
  have HT : Hid (Tx (w.alloc (.cells #[.int .u64 ep, .int .i64 kd, .int .i64 tid.1, .int .u64 tid.2, .bool plain, .slice a1 n1 c1, .slice a2 n2 c2, .int .i64 id.1, .int .u64 id.2, .int .i64 code] 45)) b1 a1 n1 c1 a2 n2 c2 l1 l2) := h.later hb
  have HB : Hid (Below w.heap.size w (w.alloc (.cells #[.int .u64 ep, .int .i64 kd, .int .i64 tid.1, .int .u64 tid.2, .bool plain, .slice a1 n1 c1, .slice a2 n2 c2, .int .i64 id.1, .int .u64 id.2, .int .i64 code] 45))) := hb
  have HN : Hid ((w.alloc (.cells #[.int .u64 ep, .int .i64 kd, .int .i64 tid.1, .int .u64 tid.2, .bool plain, .slice a1 n1 c1, .slice a2 n2 c2, .int .i64 id.1, .int .u64 id.2, .int .i64 code] 45)).heap[w.heap.size]? = some (.cells #[.int .u64 ep, .int .i64 kd, .int .i64 tid.1, .int .u64 tid.2, .bool plain, .slice a1 n1 c1, .slice a2 n2 c2, .int .i64 id.1, .int .u64 id.2, .int .i64 code] 45)) := hn
  clear h hb hn
  by_cases h0 : ep = 0
  · have HX : Hid (rentry ep kd tid plain l1 l2 id code = false) := by simp [Hid, rentry, h0]
    have hc : (ep == 0) = true := by simp [h0]
    clear h0
    go_enter Try.func50, Try.ntmps50
    go_wp2_with fail
    refine (fnew_any _ 1 _ (by decide)).mono ?_
    rintro e wz ⟨⟨tu, vu, rfl⟩, hbz⟩
    have HBZ : Hid (Below w.heap.size w wz) := HB.out.trans (hbz.mono HB.out.size)
    clear hbz
    go_wp2
    go_ret
    exact ⟨⟨_, rfl, ErrIs.bad HX.out⟩, HBZ.out⟩
  have hc : (ep == 0) = false := by simp [h0]
  by_cases h1 : kd = 1
  · have HX : Hid (rentry ep kd tid plain l1 l2 id code = rpart tid plain l1 l2 id code) := by simp [Hid, rentry, h0, h1]
    have hk : (kd == 1) = true := by simp [h1]
    have q := wrongPart_any ep kd tid plain b1 a1 n1 c1 a2 n2 c2 l1 l2 id code _ HT.out
    clear h0 h1
    go_enter Try.func50, Try.ntmps50
    go_wp2_with fail
    refine q.mono ?_
    clear q
    rintro e w1 ⟨⟨r, rfl, hr⟩, hb1⟩
    have HB1 : Hid (Below w.heap.size w w1) := HB.out.trans (hb1.mono HB.out.size)
    have q2 := fin_any ⟨#[112, 97, 114, 116]⟩ r _ w1 hr
    clear hb1 hr
    go_wp2_with fail
    refine q2.mono ?_
    clear q2
    rintro e w2 ⟨⟨r2, rfl, hr2⟩, hb2⟩
    have HB2 : Hid (Below w.heap.size w w2) := HB1.out.trans (hb2.mono HB1.out.size)
    have HRR := hr2
    rw [← HX.out] at HRR
    have HR2 : Hid (ErrIs r2 (rentry ep kd tid plain l1 l2 id code)) := HRR
    clear hb2 hr2 HRR
    go_wp2
    go_ret
    exact ⟨⟨_, rfl, HR2.out⟩, HB2.out⟩
  have hk : (kd == 1) = false := by simp [h1]
  by_cases h2 : kd = 2
  · have HX : Hid (rentry ep kd tid plain l1 l2 id code = rfin tid plain l1.length l2.length id code) := by simp [Hid, rentry, h0, h2]
    have hk2 : (kd == 2) = true := by simp [h2]
    have q := wrongFinish_any ep kd tid plain b1 a1 n1 c1 a2 n2 c2 l1 l2 id code _ HT.out
    clear h0 h1 h2
    go_enter Try.func50, Try.ntmps50
    go_wp2_with fail
    refine q.mono ?_
    clear q
    rintro e w1 ⟨⟨r, rfl, hr⟩, hb1⟩
    have HB1 : Hid (Below w.heap.size w w1) := HB.out.trans (hb1.mono HB.out.size)
    have q2 := fin_any ⟨#[102, 105, 110, 105, 115, 104]⟩ r _ w1 hr
    clear hb1 hr
    go_wp2_with fail
    refine q2.mono ?_
    clear q2
    rintro e w2 ⟨⟨r2, rfl, hr2⟩, hb2⟩
    have HB2 : Hid (Below w.heap.size w w2) := HB1.out.trans (hb2.mono HB1.out.size)
    have HRR := hr2
    rw [← HX.out] at HRR
    have HR2 : Hid (ErrIs r2 (rentry ep kd tid plain l1 l2 id code)) := HRR
    clear hb2 hr2 HRR
    go_wp2
    go_ret
    exact ⟨⟨_, rfl, HR2.out⟩, HB2.out⟩
  · have HX : Hid (rentry ep kd tid plain l1 l2 id code = false) := by simp [Hid, rentry, h1, h2]
    have hk2 : (kd == 2) = false := by simp [h2]
    clear h0 h1 h2
    go_enter Try.func50, Try.ntmps50
    go_wp2_with fail
    refine (fnew_any _ 1 _ (by decide)).mono ?_
    rintro e wz ⟨⟨tu, vu, rfl⟩, hbz⟩
    have HBZ : Hid (Below w.heap.size w wz) := HB.out.trans (hbz.mono HB.out.size)
    clear hbz
    go_wp2
    go_ret
    exact ⟨⟨_, rfl, ErrIs.bad HX.out⟩, HBZ.out⟩
set_option maxRecDepth 100000 in
theorem rightE_any (ep kd : Int) (tid : Id) (plain : Bool) (b1 : Nat) (a1 : Option Addr) (n1 c1 : Nat) (a2 : Option Addr) (n2 c2 : Nat) (l1 : List Rdv) (l2 : List Wrv) (id : Id) (code : Int) (w : World) (h : Tx w b1 a1 n1 c1 a2 n2 c2 l1 l2) :
    Calls Try.prog 40 #[.agg #[.int .u64 ep, .int .i64 kd, .int .i64 tid.1, .int .u64 tid.2, .bool plain, .slice a1 n1 c1, .slice a2 n2 c2, .int .i64 id.1, .int .u64 id.2, .int .i64 code]] w fun e w' => e = .returned (.bool (rentry ep kd tid plain l1 l2 id code)) ∧ Below w.heap.size w w' := by
  have hb : Below w.heap.size w (w.alloc (.cells #[.int .u64 ep, .int .i64 kd, .int .i64 tid.1, .int .u64 tid.2, .bool plain, .slice a1 n1 c1, .slice a2 n2 c2, .int .i64 id.1, .int .u64 id.2, .int .i64 code] 45)) := (Below.refl _ _).alloc (Nat.le_refl _) _
  have hn := heap_alloc_new w (.cells #[.int .u64 ep, .int .i64 kd, .int .i64 tid.1, .int .u64 tid.2, .bool plain, .slice a1 n1 c1, .slice a2 n2 c2, .int .i64 id.1, .int .u64 id.2, .int .i64 code] 45)
  have HT : Hid (Tx (w.alloc (.cells #[.int .u64 ep, .int .i64 kd, .int .i64 tid.1, .int .u64 tid.2, .bool plain, .slice a1 n1 c1, .slice a2 n2 c2, .int .i64 id.1, .int .u64 id.2, .int .i64 code] 45)) b1 a1 n1 c1 a2 n2 c2 l1 l2) := h.later hb
  have HB : Hid (Below w.heap.size w (w.alloc (.cells #[.int .u64 ep, .int .i64 kd, .int .i64 tid.1, .int .u64 tid.2, .bool plain, .slice a1 n1 c1, .slice a2 n2 c2, .int .i64 id.1, .int .u64 id.2, .int .i64 code] 45))) := hb
  have HN : Hid ((w.alloc (.cells #[.int .u64 ep, .int .i64 kd, .int .i64 tid.1, .int .u64 tid.2, .bool plain, .slice a1 n1 c1, .slice a2 n2 c2, .int .i64 id.1, .int .u64 id.2, .int .i64 code] 45)).heap[w.heap.size]? = some (.cells #[.int .u64 ep, .int .i64 kd, .int .i64 tid.1, .int .u64 tid.2, .bool plain, .slice a1 n1 c1, .slice a2 n2 c2, .int .i64 id.1, .int .u64 id.2, .int .i64 code] 45)) := hn
  clear h hb hn
  have hq := wrong_any ep kd tid plain b1 a1 n1 c1 a2 n2 c2 l1 l2 id code _ HT.out
  clear HN HT
  generalize hrr : rentry ep kd tid plain l1 l2 id code = b at *
  have HRR : Hid (rentry ep kd tid plain l1 l2 id code = b) := hrr
  clear hrr
  go_enter Try.func40, Try.ntmps40
  go_wp2_with fail
  refine hq.mono ?_
  clear hq
  rintro e w1 ⟨⟨r, rfl, hr⟩, hb1⟩
  have HB1 : Hid (Below w.heap.size w w1) := HB.out.trans (hb1.mono HB.out.size)
  clear hb1 HB
  cases b
  · obtain ⟨tu, vu, rfl⟩ := hr.2 rfl
    clear hr
    go_wp2
    go_ret
    exact ⟨by simp, HB1.out⟩
  · obtain rfl := hr.1 rfl
    clear hr
    go_wp2
    go_ret
    exact ⟨by simp, HB1.out⟩
end Go.Proofs.Ytlefaicdcomkjaa
