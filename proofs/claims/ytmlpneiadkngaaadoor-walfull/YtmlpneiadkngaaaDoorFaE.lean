/- What the small functions of package fault do: contracts. -/
import Derived.Test.YtmlpneiadkngaaaDoorFaD
namespace Go.Proofs.YtmlpneiadkngaaaDoor
open Go.RowKit Go.Extern.Stop Go.Stop Go.Extern

theorem below_new (w : World) (o : Obj) : Below w.heap.size w (w.alloc o) := (Below.refl _ _).alloc (Nat.le_refl _) o
theorem heap_new (w : World) (o : Obj) : (w.alloc o).heap[w.heap.size]? = some o := by
  show (w.heap.push o)[w.heap.size]? = _
  simp

theorem new_ok (s : ByteArray) (w : World) :
    Calls Tryd.prog 32 #[.string s, .int .i64 0] w fun e w' => e = .returned .nilIface ∧ w' = w := by
  go_enter Tryd.func32, Tryd.ntmps32
  go_wp2
  go_ret
  exact ⟨rfl, rfl⟩
theorem new_bad (s : ByteArray) (n : Int) (w : World) (hn : n ≠ 0) :
    Calls Tryd.prog 32 #[.string s, .int .i64 n] w fun e w' => ∃ v, e = .returned v ∧ Errv w' n [s] v ∧ Below w.heap.size w w' := by
  go_enter Tryd.func32, Tryd.ntmps32
  go_wp2
  go_ret
  exact ⟨_, rfl, ⟨_, _, rfl, heap_new _ _, rfl⟩, below_new _ _⟩
theorem Errv.iface {w : World} {n : Int} {qs : List ByteArray} {v : Value} (h : Errv w n qs v) : ∃ tu vu, v = .iface tu vu := by
  cases qs with
  | nil => exact ⟨_, _, h⟩
  | cons s rs => obtain ⟨b, u, h, _⟩ := h; exact ⟨_, _, h⟩
theorem in_bad (s : ByteArray) (n : Int) (qs : List ByteArray) (v : Value) (w : World) (hv : Errv w n qs v) :
    Calls Tryd.prog 36 #[.string s, v] w fun e w' => ∃ v', e = .returned v' ∧ Errv w' n (s :: qs) v' ∧ Below w.heap.size w w' := by
  obtain ⟨tu, vu, rfl⟩ := hv.iface
  have HV : Hid (Errv w n qs (.iface tu vu)) := hv
  clear hv
  go_enter Tryd.func36, Tryd.ntmps36
  go_wp2
  go_ret
  exact ⟨_, rfl, ⟨_, _, rfl, heap_new _ _, HV.out.later (below_new _ _)⟩, below_new _ _⟩
theorem in_ok (s : ByteArray) (w : World) :
    Calls Tryd.prog 36 #[.string s, .nilIface] w fun e w' => e = .returned .nilIface ∧ w' = w := by
  go_enter Tryd.func36, Tryd.ntmps36
  go_wp2
  go_ret
  exact ⟨rfl, rfl⟩

/-- the outermost fault of an error -/
def ptrOf : Value → Value
  | .iface 85 p => p
  | _ => .pointer none
theorem Errv.ptr {w : World} {n : Int} {qs : List ByteArray} {v : Value} (h : Errv w n qs v) : Ptr w n qs (ptrOf v) := by
  cases qs with
  | nil => have : v = .iface 25 (.int .i64 n) := h; subst this; rfl
  | cons s qs => obtain ⟨b, u, rfl, hb, hu⟩ := h; exact ⟨b, u, rfl, hb, hu⟩

theorem outermost_any (n : Int) (qs : List ByteArray) (v : Value) (w : World) (hg : G w) (hv : Errv w n qs v) :
    Calls Tryd.prog 57 #[v] w fun e w' => e = .returned (ptrOf v) ∧ Below w.heap.size w w' := by
  cases qs with
  | nil =>
    have : v = .iface 25 (.int .i64 n) := hv
    subst this
    go_enter Tryd.func57, Tryd.ntmps57
    go_wp2_with fail
    refine (As_miss37 n ⟨w.heap.size, 0, none⟩ (.pointer none) (w.alloc (.cells #[.pointer none] 85)) (hg.alloc _) (by simp) (by simp)).mono ?_
    rintro e w' ⟨rfl, hb⟩
    have HB : Hid (Below w.heap.size w w') := (below_new _ _).trans (hb.mono (by simp))
    clear hb hg hv
    go_wp2
    go_ret
    exact ⟨rfl, HB.out⟩
  | cons s qs =>
    obtain ⟨b, u, rfl, hb, hu⟩ := hv
    go_enter Tryd.func57, Tryd.ntmps57
    go_wp2_with fail
    refine (As_hit37 ⟨b, 0, none⟩ ⟨w.heap.size, 0, none⟩ (.pointer none) (w.alloc (.cells #[.pointer none] 85)) (hg.alloc _) (by simp) (by simp)).mono ?_
    rintro e w' ⟨rfl, hc, hb'⟩
    have HB : Hid (Below w.heap.size w w') := (below_new _ _).trans hb'
    clear hb' hg hb hu
    go_wp2
    go_ret
    exact ⟨rfl, HB.out⟩
theorem outermost_nil (w : World) :
    Calls Tryd.prog 57 #[.nilIface] w fun e w' => e = .returned (.pointer none) ∧ Below w.heap.size w w' := by
  go_enter Tryd.func57, Tryd.ntmps57
  go_wp2_with fail
  refine (As_nil _ _).mono ?_
  rintro e w' ⟨rfl, hw⟩
  subst w'
  go_wp2
  go_ret
  exact ⟨rfl, below_new _ _⟩

theorem inner_any (n : Int) (qs : List ByteArray) (p : Value) (w0 w : World) (hg : G w) (h0 : Below w0.heap.size w0 w) (hp : Ptr w0 n qs p) :
    Calls Tryd.prog 58 #[p] w fun e w' => ∃ p', e = .returned p' ∧ Ptr w0 n qs.tail p' ∧ Below w.heap.size w w' := by
  cases qs with
  | nil =>
    have : p = .pointer none := hp
    subst this
    go_enter Tryd.func58, Tryd.ntmps58
    go_wp2
    go_ret
    exact ⟨_, rfl, rfl, Below.refl _ _⟩
  | cons s qs =>
    obtain ⟨b, u, rfl, hb, hu⟩ := hp
    have hc : w.cell? ⟨b, 1, none⟩ = some u := cell_later h0 (cell_of_heap hb rfl)
    have HU : Hid (Errv w n qs u) := hu.later h0
    have HP : Hid (Ptr w0 n qs (ptrOf u)) := hu.ptr
    have HG : Hid (G w) := hg
    clear hb hu hg
    go_enter Tryd.func58, Tryd.ntmps58
    go_wp2_with fail
    refine (outermost_any n qs u w HG.out HU.out).mono ?_
    rintro e w' ⟨rfl, hb⟩
    have HB : Hid (Below w.heap.size w w') := hb
    generalize ptrOf u = p' at HP ⊢
    clear hb
    go_wp2
    go_ret
    exact ⟨_, rfl, HP.out, HB.out⟩

theorem unwrap_any (n : Int) (qs : List ByteArray) (s : ByteArray) (p : Value) (w : World) (hp : Ptr w n (s :: qs) p) :
    Calls Tryd.prog 107 #[p] w fun e w' => ∃ v, e = .returned v ∧ Errv w n qs v ∧ w' = w := by
  obtain ⟨b, u, rfl, hb, hu⟩ := hp
  have hc : w.cell? ⟨b, 1, none⟩ = some u := cell_of_heap hb rfl
  have HU : Hid (Errv w n qs u) := hu
  clear hb hu
  go_enter Tryd.func107, Tryd.ntmps107
  go_wp2
  go_ret
  exact ⟨_, rfl, HU.out, rfl⟩
end Go.Proofs.YtmlpneiadkngaaaDoor
