/- The document's word on which entries are right: a contract. -/
import Derived.Test.YtlefaicdcomkjaaEnK
import Derived.Test.YtlefaicdcomkjaaEnH
namespace Go.Proofs.Ytlefaicdcomkjaa
open Go Go.RowKit
set_option linter.unusedVariables false
set_option linter.unusedSimpArgs false

/-- a transaction's lists in memory, as the document's -/
structure Tr (w : World) (b1 : Nat) (a1 : Option Addr) (c1 : Nat) (a2 : Option Addr) (c2 : Nat) (l1 : List Rdv) (l2 : List Wrv) : Prop where
  r : w.ownsRow b1 99 2 (.slice a1 l1.length c1) l1.length (l1.flatMap Rdv.cells)
  w : w.ownsRow b1 100 3 (.slice a2 l2.length c2) l2.length (l2.flatMap Wrv.cells)
  f : Fine l1 l2
  h1 : l1.length ≤ 10
  h2 : l2.length ≤ 10
theorem Tr.later {w w' : World} {b1 : Nat} {a1 : Option Addr} {c1 : Nat} {a2 : Option Addr} {c2 : Nat} {l1 : List Rdv} {l2 : List Wrv} (h : Tr w b1 a1 c1 a2 c2 l1 l2) (hb : Below w.heap.size w w') : Tr w' b1 a1 c1 a2 c2 l1 l2 := ⟨owns_later h.r hb, owns_later h.w hb, h.f, h.h1, h.h2⟩
set_option maxRecDepth 100000 in
set_option maxHeartbeats 16000000 in
theorem ref_right_entry (ep kd : Int) (tid : Id) (plain : Bool) (b1 : Nat) (a1 : Option Addr) (c1 : Nat) (a2 : Option Addr) (c2 : Nat) (l1 : List Rdv) (l2 : List Wrv) (id : Id) (code : Int) (w : World) (h : Tr w b1 a1 c1 a2 c2 l1 l2) (ht : 0 ≤ tid.2) (hi : 0 ≤ id.2) :
    Calls Try.prog 44 #[.agg #[.int .u64 ep, .int .i64 kd, .int .i64 tid.1, .int .u64 tid.2, .bool plain, .slice a1 l1.length c1, .slice a2 l2.length c2, .int .i64 id.1, .int .u64 id.2, .int .i64 code]] w fun e w' => e = .returned (.bool (rentry ep kd tid plain l1 l2 id code)) ∧ Below w.heap.size w w' := by
  have b1' : Below w.heap.size w (w.alloc (.cells #[.int .u64 ep, .int .i64 kd, .int .i64 tid.1, .int .u64 tid.2, .bool plain, .slice a1 l1.length c1, .slice a2 l2.length c2, .int .i64 id.1, .int .u64 id.2, .int .i64 code] 54)) := (Below.refl _ _).alloc (Nat.le_refl _) _
  have HB0 : Hid (Below w.heap.size w (w.alloc (.cells #[.int .u64 ep, .int .i64 kd, .int .i64 tid.1, .int .u64 tid.2, .bool plain, .slice a1 l1.length c1, .slice a2 l2.length c2, .int .i64 id.1, .int .u64 id.2, .int .i64 code] 54))) := b1'
  have HB : Hid (Below w.heap.size w ((w.alloc (.cells #[.int .u64 ep, .int .i64 kd, .int .i64 tid.1, .int .u64 tid.2, .bool plain, .slice a1 l1.length c1, .slice a2 l2.length c2, .int .i64 id.1, .int .u64 id.2, .int .i64 code] 54)).alloc (.cells #[.int .i64 0, .int .u64 0] 38))) := b1'.alloc (by simp) _
  have HN : Hid (((w.alloc (.cells #[.int .u64 ep, .int .i64 kd, .int .i64 tid.1, .int .u64 tid.2, .bool plain, .slice a1 l1.length c1, .slice a2 l2.length c2, .int .i64 id.1, .int .u64 id.2, .int .i64 code] 54)).alloc (.cells #[.int .i64 0, .int .u64 0] 38)).heap[w.heap.size]? = some (.cells #[.int .u64 ep, .int .i64 kd, .int .i64 tid.1, .int .u64 tid.2, .bool plain, .slice a1 l1.length c1, .slice a2 l2.length c2, .int .i64 id.1, .int .u64 id.2, .int .i64 code] 54)) := (heap_alloc_old _ _ (by simp)).trans (heap_alloc_new w _)
  have HZ : Hid (((w.alloc (.cells #[.int .u64 ep, .int .i64 kd, .int .i64 tid.1, .int .u64 tid.2, .bool plain, .slice a1 l1.length c1, .slice a2 l2.length c2, .int .i64 id.1, .int .u64 id.2, .int .i64 code] 54)).alloc (.cells #[.int .i64 0, .int .u64 0] 38)).heap[w.heap.size + 1]? = some (.cells #[.int .i64 0, .int .u64 0] 38)) := by
    have := heap_alloc_new (w.alloc (.cells #[.int .u64 ep, .int .i64 kd, .int .i64 tid.1, .int .u64 tid.2, .bool plain, .slice a1 l1.length c1, .slice a2 l2.length c2, .int .i64 id.1, .int .u64 id.2, .int .i64 code] 54)) (.cells #[.int .i64 0, .int .u64 0] 38)
    rwa [World.size_alloc] at this
  have HT : Hid (Tr ((w.alloc (.cells #[.int .u64 ep, .int .i64 kd, .int .i64 tid.1, .int .u64 tid.2, .bool plain, .slice a1 l1.length c1, .slice a2 l2.length c2, .int .i64 id.1, .int .u64 id.2, .int .i64 code] 54)).alloc (.cells #[.int .i64 0, .int .u64 0] 38)) b1 a1 c1 a2 c2 l1 l2) := h.later HB.out
  have hl1 := h.h1
  have hl2 := h.h2
  clear h b1'
  by_cases h0 : ep = 0
  · have HX : Hid (rentry ep kd tid plain l1 l2 id code = false) := by simp [Hid, rentry, h0]
    have hc : (ep == 0) = true := by simp [h0]
    clear h0
    go_enter Try.func44, Try.ntmps44
    go_wp2
    go_ret
    exact ⟨by rw [HX.out]; rfl, HB0.out⟩
  have hc : (ep == 0) = false := by simp [h0]
  have HEX : Hid (rentry ep kd tid plain l1 l2 id code = (decide (kd = 1) && rpart tid plain l1 l2 id code || decide (kd = 2) && rfin tid plain l1.length l2.length id code)) := by simp [Hid, rentry, h0]
  clear h0
  have q1 := eql_38 id (0, 0)
  have q2 := neq_38 tid (0, 0)
  by_cases h1 : kd = 1
  · have HX : Hid (rentry ep kd tid plain l1 l2 id code = (rtxn tid plain l1 l2 && decide (id = (0, 0)) && decide (code = 0))) := by rw [Hid, HEX.out]; simp [h1, rpart]
    have hk : (kd == 1) = true := by simp [h1]
    have q := ref_rightTxn_any tid plain b1 (.slice a1 l1.length c1) (.slice a2 l2.length c2) l1 l2 ((w.alloc (.cells #[.int .u64 ep, .int .i64 kd, .int .i64 tid.1, .int .u64 tid.2, .bool plain, .slice a1 l1.length c1, .slice a2 l2.length c2, .int .i64 id.1, .int .u64 id.2, .int .i64 code] 54)).alloc (.cells #[.int .i64 0, .int .u64 0] 38)) HT.out.r HT.out.w ht hl1 hl2 HT.out.f.r (fun x hx => ⟨HT.out.f.k x hx, HT.out.f.v x hx⟩)
    clear h1 HEX q2
    generalize decide (id = (0, 0)) = d0 at *
    go_enter Try.func44, Try.ntmps44
    go_upto_region 4 with fail
    generalize hww : ((w.alloc (.cells #[.int .u64 ep, .int .i64 kd, .int .i64 tid.1, .int .u64 tid.2, .bool plain, .slice a1 l1.length c1, .slice a2 l2.length c2, .int .i64 id.1, .int .u64 id.2, .int .i64 code] 54)).alloc (.cells #[.int .i64 0, .int .u64 0] 38)) = v1 at *
    have e2 : v1.cell? ⟨w.heap.size, 2, none⟩ = some (.int .i64 tid.1) := cell_of_heap HN.out rfl
    have e3 : v1.cell? ⟨w.heap.size, 3, none⟩ = some (.int .u64 tid.2) := cell_of_heap HN.out rfl
    have e4 : v1.cell? ⟨w.heap.size, 4, none⟩ = some (.bool plain) := cell_of_heap HN.out rfl
    have e5 : v1.cell? ⟨w.heap.size, 5, none⟩ = some (.slice a1 l1.length c1) := cell_of_heap HN.out rfl
    have e6 : v1.cell? ⟨w.heap.size, 6, none⟩ = some (.slice a2 l2.length c2) := cell_of_heap HN.out rfl
    have e1 : v1.cell? ⟨w.heap.size, 1, none⟩ = some (.int .i64 kd) := cell_of_heap HN.out rfl
    go_wp2_with fail
    refine q.mono ?_
    clear q
    rintro e w2 ⟨rfl, hb2⟩
    clear hww e1 e2 e3 e4 e5 e6
    have HB2 : Hid (Below w.heap.size w w2) := HB.out.trans (hb2.mono HB.out.size)
    have hn2 := (hb2.block _ (Array.getElem?_eq_some_iff.1 HN.out).1).trans HN.out
    have hz2 := (hb2.block _ (Array.getElem?_eq_some_iff.1 HZ.out).1).trans HZ.out
    have e7 : w2.cell? ⟨w.heap.size, 7, none⟩ = some (.int .i64 id.1) := cell_of_heap hn2 rfl
    have e8 : w2.cell? ⟨w.heap.size, 8, none⟩ = some (.int .u64 id.2) := cell_of_heap hn2 rfl
    have e9 : w2.cell? ⟨w.heap.size, 9, none⟩ = some (.int .i64 code) := cell_of_heap hn2 rfl
    have z0 : w2.cell? ⟨w.heap.size + 1, 0, none⟩ = some (.int .i64 0) := cell_of_heap hz2 rfl
    have z1 : w2.cell? ⟨w.heap.size + 1, 1, none⟩ = some (.int .u64 0) := cell_of_heap hz2 rfl
    clear hb2 hn2 hz2 HB HN HZ HT HB0
    generalize rtxn tid plain l1 l2 = rt at *
    cases rt
    · go_wp2
      go_ret
      exact ⟨by rw [HX.out]; rfl, HB2.out⟩
    cases d0
    · go_wp2
      go_ret
      exact ⟨by rw [HX.out]; rfl, HB2.out⟩
    by_cases hcd : code = 0
    · have hcb : (code == 0) = true := by simp [hcd]
      have hcdd : decide (code = 0) = true := by simp [hcd]
      clear hcd
      go_wp2
      go_ret
      exact ⟨by rw [HX.out, hcdd]; rfl, HB2.out⟩
    · have hcb : (code == 0) = false := by simp [hcd]
      have hcdd : decide (code = 0) = false := by simp [hcd]
      clear hcd
      go_wp2
      go_ret
      exact ⟨by rw [HX.out, hcdd]; rfl, HB2.out⟩
  have hk : (kd == 1) = false := by simp [h1]
  by_cases h2 : kd = 2
  rotate_left
  · have HX : Hid (rentry ep kd tid plain l1 l2 id code = false) := by rw [Hid, HEX.out]; simp [h1, h2]
    have hk2 : (kd == 2) = false := by simp [h2]
    have hk3 : (kd != 2) = true := by simp [h2]
    clear h1 h2 HEX q1 q2
    go_enter Try.func44, Try.ntmps44
    go_wp2
    go_ret
    exact ⟨by rw [HX.out]; rfl, HB.out⟩
  have HX : Hid (rentry ep kd tid plain l1 l2 id code = (noTxn tid plain l1.length l2.length && rid id && rcode code)) := by rw [Hid, HEX.out]; simp [h2, rfin]
  have hk2 : (kd == 2) = true := by simp [h2]
  have hk3 : (kd != 2) = false := by simp [h2]
  clear h1 h2 HEX q1
  have HNX : Hid (noTxn tid plain l1.length l2.length = (decide (tid = (0, 0)) && !plain && decide (l1.length = 0) && decide (l2.length = 0))) := rfl
  generalize decide (tid = (0, 0)) = d0 at *
  cases d0
  · have HY : Hid (rentry ep kd tid plain l1 l2 id code = false) := by rw [Hid, HX.out, HNX.out]; rfl
    go_enter Try.func44, Try.ntmps44
    go_wp2
    go_ret
    exact ⟨by rw [HY.out]; rfl, HB.out⟩
  cases plain
  rotate_left
  · have HY : Hid (rentry ep kd tid true l1 l2 id code = false) := by rw [Hid, HX.out, HNX.out]; rfl
    go_enter Try.func44, Try.ntmps44
    go_wp2
    go_ret
    exact ⟨by rw [HY.out]; rfl, HB.out⟩
  clear HT hl1 hl2
  generalize l1.length = m1 at *
  generalize l2.length = m2 at *
  by_cases n1 : m1 = 0
  rotate_left
  · have HY : Hid (rentry ep kd tid false l1 l2 id code = false) := by rw [Hid, HX.out, HNX.out]; simp [n1]
    have hg : (0 : Int) < (m1 : Int) := by omega
    clear n1
    go_enter Try.func44, Try.ntmps44
    go_wp2
    go_ret
    exact ⟨by rw [HY.out]; rfl, HB.out⟩
  subst n1
  by_cases n2 : m2 = 0
  rotate_left
  · have HY : Hid (rentry ep kd tid false l1 l2 id code = false) := by rw [Hid, HX.out, HNX.out]; simp [n2]
    have hg : (0 : Int) < (m2 : Int) := by omega
    clear n2
    go_enter Try.func44, Try.ntmps44
    go_wp2
    go_ret
    exact ⟨by rw [HY.out]; rfl, HB.out⟩
  subst n2
  have HY : Hid (rentry ep kd tid false l1 l2 id code = (rid id && rcode code)) := by rw [Hid, HX.out, HNX.out]; simp
  clear HX HNX
  go_enter Try.func44, Try.ntmps44
  go_wp2_with fail
  refine (ref_rightID_any id _ hi).mono ?_
  rintro e w2 ⟨rfl, hb2⟩
  have HB2 : Hid (Below w.heap.size w w2) := HB.out.trans (hb2.mono HB.out.size)
  have hn2 := (hb2.block _ (Array.getElem?_eq_some_iff.1 HN.out).1).trans HN.out
  have e9 : w2.cell? ⟨w.heap.size, 9, none⟩ = some (.int .i64 code) := cell_of_heap hn2 rfl
  clear hb2 hn2 HB HN HZ HB0
  generalize rid id = ri at *
  cases ri
  · go_wp2
    go_ret
    exact ⟨by rw [HY.out]; rfl, HB2.out⟩
  by_cases k0 : code = 0
  · have HV : Hid (rcode code = true) := by simp [Hid, rcode, k0]
    have q0 : (code == 0) = true := by simp [k0]
    clear k0
    go_wp2
    go_ret
    exact ⟨by rw [HY.out, HV.out]; rfl, HB2.out⟩
  have q0 : (code == 0) = false := by simp [k0]
  by_cases k8 : code = 8
  · have HV : Hid (rcode code = true) := by simp [Hid, rcode, k8]
    have q8 : (code == 8) = true := by simp [k8]
    clear k0 k8
    go_wp2
    go_ret
    exact ⟨by rw [HY.out, HV.out]; rfl, HB2.out⟩
  have q8 : (code == 8) = false := by simp [k8]
  by_cases k11 : code = 11
  · have HV : Hid (rcode code = true) := by simp [Hid, rcode, k11]
    have q11 : (code == 11) = true := by simp [k11]
    clear k0 k8 k11
    go_wp2
    go_ret
    exact ⟨by rw [HY.out, HV.out]; rfl, HB2.out⟩
  have q11 : (code == 11) = false := by simp [k11]
  have HV : Hid (rcode code = false) := by simp [Hid, rcode, k0, k8, k11]
  clear k0 k8 k11
  go_wp2
  go_ret
  exact ⟨by rw [HY.out, HV.out]; rfl, HB2.out⟩
end Go.Proofs.Ytlefaicdcomkjaa
