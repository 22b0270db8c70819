/- errors.As at a number and at a fault: contracts. -/
import Derived.Test.YtmlpneiadkngaaaDoorFaB
namespace Go.Proofs.YtmlpneiadkngaaaDoor
open Go.RowKit Go.Extern.Stop Go.Stop Go.Extern

set_option maxHeartbeats 4000000 in
/-- a fault, looked for in a fault -/
theorem as_hit37 (e t a : Addr) (old : Value) (w : World) (ha : w.cell? a = some (.pointer (some t))) (ht : w.cell? t = some old) (hf : w.frozen? t = false) :
    Calls Tryd.prog 64 #[.iface 85 (.pointer (some e)), .iface 122 (.pointer (some t)), .agg #[.pointer (some ⟨1, 122, none⟩), .pointer (some a), .int .u64 150], .iface 124 (.agg #[.pointer (some ⟨1, 85, none⟩)])] w fun ev w' =>
      ev = .returned (.bool true) ∧ w' = ((w.alloc (.cells #[.pointer (some ⟨1, 122, none⟩), .pointer (some a), .int .u64 150] 105)).alloc (.cells #[.pointer (some e)] 85)).setCell t (.pointer (some e)) := by
  have h47 := @run_callFunc_extern Tryd.prog 61 _ (fun args => ReflectliteValue.unpack (args.getD 0 (.tuple #[]))) Tryd.func61 (by kernel_rfl) (by kernel_rfl) (by kernel_rfl) (by kernel_rfl)
  have h54 := @run_callFunc_extern Tryd.prog 59 _ ReflectliteType.typeOf Tryd.func59 (by kernel_rfl) (by kernel_rfl) (by kernel_rfl) (by kernel_rfl)
  have h92 := @run_callFunc_extern Tryd.prog 112 _ (ReflectliteType.relation "AssignableTo" ReflectliteType.assignableTo) Tryd.func112 (by kernel_rfl) (by kernel_rfl) (by kernel_rfl) (by kernel_rfl)
  have h61 := @run_callFunc_extern Tryd.prog 73 _ (ReflectliteValue.method (ReflectliteValue.valueError "reflectlite.Value.Elem" 0) ReflectliteValue.elem) Tryd.func73 (by kernel_rfl) (by kernel_rfl) (by kernel_rfl) (by kernel_rfl)
  have h62 := @run_callFunc_extern Tryd.prog 74 _ ReflectliteValue.set Tryd.func74 (by kernel_rfl) (by kernel_rfl) (by kernel_rfl) (by kernel_rfl)
  have tO := Fa.typeOf37
  have mA := Fa.methodAssignableTo
  have aS := Fa.assign37to37
  have vO := Fa.valueOf37
  have hal := cell_lt ha
  have htl := cell_lt ht
  have el := Fa.elemV96 a t (w.alloc (.cells #[.pointer (some ⟨1, 122, none⟩), .pointer (some a), .int .u64 150] 105)) (by rw [World.cell?_alloc_lt _ _ a hal]; exact ha)
  have st := Fa.set37 t ⟨w.heap.size + 1, 0, none⟩ e old ((w.alloc (.cells #[.pointer (some ⟨1, 122, none⟩), .pointer (some a), .int .u64 150] 105)).alloc (.cells #[.pointer (some e)] 85))
    (by rw [World.cell?_alloc_at _ _ _ _ (by simp)]; rfl)
    (by rw [World.cell?_alloc_lt _ _ t (by simp; omega), World.cell?_alloc_lt _ _ t htl]; exact ht)
    (by rw [World.frozen?_alloc_old _ _ t (by simp; omega), World.frozen?_alloc_old _ _ t (Nat.ne_of_lt htl)]; exact hf)
  go_enter Tryd.func64, Tryd.ntmps64
  go_wp2
  refine wp_loop_rounds 1 ?_
  rw [rounds_succ]
  go_wp2
  go_ret
  exact ⟨rfl, rfl⟩

set_option maxHeartbeats 4000000 in
/-- a fault, looked for in a number -/
theorem as_miss37 (n : Int) (t a : Addr) (w : World) :
    Calls Tryd.prog 64 #[.iface 25 (.int .i64 n), .iface 122 (.pointer (some t)), .agg #[.pointer (some ⟨1, 122, none⟩), .pointer (some a), .int .u64 150], .iface 124 (.agg #[.pointer (some ⟨1, 85, none⟩)])] w fun ev w' =>
      ev = .returned (.bool false) ∧ w' = w.alloc (.cells #[.pointer (some ⟨1, 122, none⟩), .pointer (some a), .int .u64 150] 105) := by
  have h54 := @run_callFunc_extern Tryd.prog 59 _ ReflectliteType.typeOf Tryd.func59 (by kernel_rfl) (by kernel_rfl) (by kernel_rfl) (by kernel_rfl)
  have h92 := @run_callFunc_extern Tryd.prog 112 _ (ReflectliteType.relation "AssignableTo" ReflectliteType.assignableTo) Tryd.func112 (by kernel_rfl) (by kernel_rfl) (by kernel_rfl) (by kernel_rfl)
  have tO := Fa.typeOf25
  have mA := Fa.methodAssignableTo
  have aS := Fa.assign25to37
  have n1 := Fa.noAs25
  have n2 := Fa.noUnwrap25
  have n3 := Fa.noUnwraps25
  go_enter Tryd.func64, Tryd.ntmps64
  go_wp2
  refine wp_loop_rounds 1 ?_
  rw [rounds_succ]
  go_wp2
  go_ret
  exact ⟨rfl, rfl⟩

set_option maxHeartbeats 4000000 in
/-- a number, looked for in an error that wraps it -/
theorem as_hit25 (n : Int) (qs : List ByteArray) (v : Value) (t a : Addr) (old : Value) (w : World) (hv : Errv w n qs v) (ha : w.cell? a = some (.pointer (some t))) (ht : w.cell? t = some old) (hf : w.frozen? t = false) :
    Calls Tryd.prog 64 #[v, .iface 81 (.pointer (some t)), .agg #[.pointer (some ⟨1, 81, none⟩), .pointer (some a), .int .u64 150], .iface 124 (.agg #[.pointer (some ⟨1, 25, none⟩)])] w fun ev w' =>
      ev = .returned (.bool true) ∧ w' = ((w.alloc (.cells #[.pointer (some ⟨1, 81, none⟩), .pointer (some a), .int .u64 150] 105)).alloc (.cells #[.int .i64 n] 25)).setCell t (.int .i64 n) := by
  have h47 := @run_callFunc_extern Tryd.prog 61 _ (fun args => ReflectliteValue.unpack (args.getD 0 (.tuple #[]))) Tryd.func61 (by kernel_rfl) (by kernel_rfl) (by kernel_rfl) (by kernel_rfl)
  have h54 := @run_callFunc_extern Tryd.prog 59 _ ReflectliteType.typeOf Tryd.func59 (by kernel_rfl) (by kernel_rfl) (by kernel_rfl) (by kernel_rfl)
  have h92 := @run_callFunc_extern Tryd.prog 112 _ (ReflectliteType.relation "AssignableTo" ReflectliteType.assignableTo) Tryd.func112 (by kernel_rfl) (by kernel_rfl) (by kernel_rfl) (by kernel_rfl)
  have h61 := @run_callFunc_extern Tryd.prog 73 _ (ReflectliteValue.method (ReflectliteValue.valueError "reflectlite.Value.Elem" 0) ReflectliteValue.elem) Tryd.func73 (by kernel_rfl) (by kernel_rfl) (by kernel_rfl) (by kernel_rfl)
  have h62 := @run_callFunc_extern Tryd.prog 74 _ ReflectliteValue.set Tryd.func74 (by kernel_rfl) (by kernel_rfl) (by kernel_rfl) (by kernel_rfl)
  have mA := Fa.methodAssignableTo
  have hal := cell_lt ha
  have htl := cell_lt ht
  have el := Fa.elemV64 a t (w.alloc (.cells #[.pointer (some ⟨1, 81, none⟩), .pointer (some a), .int .u64 150] 105)) (by rw [World.cell?_alloc_lt _ _ a hal]; exact ha)
  have st := Fa.set25 t ⟨w.heap.size + 1, 0, none⟩ n old ((w.alloc (.cells #[.pointer (some ⟨1, 81, none⟩), .pointer (some a), .int .u64 150] 105)).alloc (.cells #[.int .i64 n] 25))
    (by rw [World.cell?_alloc_at _ _ _ _ (by simp)]; rfl)
    (by rw [World.cell?_alloc_lt _ _ t (by simp; omega), World.cell?_alloc_lt _ _ t htl]; exact ht)
    (by rw [World.frozen?_alloc_old _ _ t (by simp; omega), World.frozen?_alloc_old _ _ t (Nat.ne_of_lt htl)]; exact hf)
  have HV : Hid (Errv w n qs v) := hv
  obtain ⟨d, hd⟩ := Errv.depth w n
  have HD : Hid (∀ qs v, Errv w n qs v → d v = qs.length) := hd
  clear hv hd ha ht hf
  go_enter Tryd.func64, Tryd.ntmps64
  go_wp2
  go_loop [0] (fun u => ∃ rs, Hid (Errv w n rs u)) (fun u => d u)
  case atStart => exact ⟨qs, HV⟩
  case round =>
    obtain ⟨rs, hrs⟩ := hrel
    cases rs with
    | nil =>
      have := hrs.out
      simp only [Errv] at this
      subst this
      clear hrs
      have tO := Fa.typeOf25
      have aS := Fa.assign25to25
      have vO := Fa.valueOf25
      go_wp2
      go_ret
      exact ⟨rfl, rfl⟩
    | cons s rs =>
      obtain ⟨b, u, rfl, hb, hu⟩ := hrs.out
      have tO := Fa.typeOf37
      have aS := Fa.assign37to25
      have n1 := Fa.noAs37
      have n2 := Fa.hasUnwrap37
      have mU := Fa.methodUnwrap
      have hc : (w.alloc (.cells #[.pointer (some ⟨1, 81, none⟩), .pointer (some a), .int .u64 150] 105)).cell? ⟨b, 1, none⟩ = some u := by
        rw [World.cell?_alloc_lt _ _ _ (heap_lt hb)]
        exact cell_of_heap hb rfl
      have HS := hrs
      have HU : Hid (Errv w n rs u) := hu
      clear hb hu hrs
      obtain ⟨tu, vu, rfl⟩ : ∃ tu vu, u = .iface tu vu := by
        cases rs with
        | nil => exact ⟨_, _, HU.out⟩
        | cons s rs => obtain ⟨b, u, h, _⟩ := HU.out; exact ⟨_, _, h⟩
      go_wp2
      go_round
      case rel => exact ⟨rs, HU⟩
      case measure => show d (.iface tu vu) < d _; rw [HD.out _ _ HS.out, HD.out _ _ HU.out]; simp
end Go.Proofs.YtmlpneiadkngaaaDoor
