/- A fault's number, and whether it is a given one: contracts. -/
import Derived.Test.YtmlpneiadkngaaaDoorFaF
namespace Go.Proofs.YtmlpneiadkngaaaDoor
open Go.RowKit Go.Extern.Stop Go.Stop Go.Extern

theorem code_nil (w : World) :
    Calls Tryd.prog 25 #[.nilIface] w fun e w' => e = .returned (.int .i64 0) ∧ w' = w := by
  go_enter Tryd.func25, Tryd.ntmps25
  go_wp2
  go_ret
  exact ⟨rfl, rfl⟩

theorem code_any (n : Int) (qs : List ByteArray) (v : Value) (w : World) (hg : G w) (hv : Errv w n qs v) :
    Calls Tryd.prog 25 #[v] w fun e w' => e = .returned (.int .i64 n) ∧ Below w.heap.size w w' := by
  have hB1 : Below w.heap.size w (w.alloc (.cells #[.int .i64 0] 25)) := below_new _ _
  have HG1 : Hid (G (w.alloc (.cells #[.int .i64 0] 25))) := hg.later hB1
  have HV1 : Hid (Errv (w.alloc (.cells #[.int .i64 0] 25)) n qs v) := hv.later hB1
  obtain ⟨tu, vu, rfl⟩ := hv.iface
  clear hg hv
  go_enter Tryd.func25, Tryd.ntmps25
  go_wp2_with fail
  refine (endless_any n qs _ _ HG1.out HV1.out).mono ?_
  rintro e w2 ⟨rfl, hb2⟩
  have hc2 : w2.cell? ⟨w.heap.size, 0, none⟩ = some (.int .i64 0) := by rw [hb2.cell (p := ⟨w.heap.size, 0, none⟩) (by simp)]; simp
  have hf2 : w2.frozen? ⟨w.heap.size, 0, none⟩ = false := by rw [hb2.frozen (p := ⟨w.heap.size, 0, none⟩) (by simp)]; simp
  have HB2 : Hid (Below (w.alloc (.cells #[.int .i64 0] 25)).heap.size (w.alloc (.cells #[.int .i64 0] 25)) w2) := hb2
  clear hb2
  go_wp2_with fail
  refine (As_hit25 n qs _ ⟨w.heap.size, 0, none⟩ (.int .i64 0) w2 (HV1.out.later HB2.out) (HG1.out.later HB2.out) hc2 hf2).mono ?_
  rintro e w3 ⟨rfl, hc3, hb3⟩
  have HB3 : Hid (Below w.heap.size w w3) := hB1.trans ((HB2.out.mono (by simp)).trans hb3)
  clear hb3 hB1 hc2 hf2
  go_wp2
  go_ret
  exact ⟨rfl, HB3.out⟩

theorem endless_nil (w : World) :
    Calls Tryd.prog 40 #[.nilIface] w fun e w' => e = .returned (.bool false) ∧ Below w.heap.size w w' := by
  go_enter Tryd.func40, Tryd.ntmps40
  go_wp2_with fail
  refine (outermost_nil w).mono ?_
  rintro e w1 ⟨rfl, hb1⟩
  have HB1 : Hid (Below w.heap.size w w1) := hb1
  clear hb1
  go_wp2
  refine wp_loop_rounds 1 ?_
  rw [rounds_succ]
  go_wp2
  go_ret
  exact ⟨rfl, HB1.out⟩

theorem Fa.comp25 : (Tryd.prog.info? 25).map (·.comparable) = some true := by kernel_rfl
theorem eql_nums (n m : Int) (w : World) : (binOp .eql 57 (.iface 25 (.int .i64 n)) (.iface 25 (.int .i64 m))).run Tryd.prog w = .ok (.bool (n == m)) w := by
  obtain ⟨i, hi, hc⟩ := Option.map_eq_some_iff.1 Fa.comp25
  have h : ∀ d : Nat, (Op.equalIn (d + 2) 57 (.iface 25 (.int .i64 n)) (.iface 25 (.int .i64 m))).run Tryd.prog w = .ok (n == m) w := fun d => by
    simp [Op.equalIn, run_underlying Tryd.underlying57, run_underlying Tryd.underlying25, typeInfo, hi, hc]
  simp only [binOp]
  simp [Op.equal, Op.maxDepth, h 9998]

set_option maxHeartbeats 4000000 in
theorem is_loop (n m : Int) (qs : List ByteArray) (v : Value) (w : World) (hv : Errv w n qs v) :
    Calls Tryd.prog 60 #[v, .iface 25 (.int .i64 m), .bool true] w fun ev w' => ev = .returned (.bool (n == m)) ∧ w' = w := by
  have HV : Hid (Errv w n qs v) := hv
  obtain ⟨d, hd⟩ := Errv.depth w n
  have HD : Hid (∀ qs v, Errv w n qs v → d v = qs.length) := hd
  have hq := fun (x : Value) (w : World) => run_eql_iface_types (P := Tryd.prog) (ti := 57) 85 25 x (.int .i64 m) Tryd.underlying57 (by decide) w
  have he := eql_nums n m
  clear hv hd
  go_enter Tryd.func60, Tryd.ntmps60
  go_wp2
  go_loop [0] (fun u => ∃ rs, Hid (Errv w n rs u)) (fun u => d u)
  case atStart => exact ⟨qs, HV⟩
  case round =>
    obtain ⟨rs, hrs⟩ := hrel
    cases rs with
    | nil =>
      have := hrs.out
      simp only [Errv] at this
      subst this
      clear hrs
      have n1 := Fa.noIs25
      have n2 := Fa.noUnwrap25
      have n3 := Fa.noUnwraps25
      by_cases hnm : n = m
      · subst hnm
        simp only [beq_self_eq_true] at he
        go_wp2
        go_ret
        exact ⟨ret_bool (by simp), rfl⟩
      · have e0 : (n == m) = false := by simpa using hnm
        rw [e0] at he
        go_wp2
        go_ret
        exact ⟨rfl, rfl⟩
    | cons s rs =>
      obtain ⟨b, u, rfl, hb, hu⟩ := hrs.out
      have n1 := Fa.noIs37
      have n2 := Fa.hasUnwrap37
      have mU := Fa.methodUnwrap
      have hc : w.cell? ⟨b, 1, none⟩ = some u := cell_of_heap hb rfl
      have HS := hrs
      have HU : Hid (Errv w n rs u) := hu
      clear hb hu hrs
      obtain ⟨tu, vu, rfl⟩ := HU.out.iface
      go_wp2
      go_round
      case rel => exact ⟨rs, HU⟩
      case measure => show d (.iface tu vu) < d _; rw [HD.out _ _ HS.out, HD.out _ _ HU.out]; simp

theorem Fa.call93 (w : World) : (callFunc 113 #[.agg #[.pointer (some ⟨1, 25, none⟩)]]).run Tryd.prog w = .ok (.value (.bool true)) w :=
  (@run_callFunc_extern Tryd.prog 113 _ (ReflectliteType.method fun t => do Rtype.noPackHeld "Comparable" t; pure (.bool (← typeInfo t).comparable)) Tryd.func113 (by kernel_rfl) (by kernel_rfl) (by kernel_rfl) (by kernel_rfl) _ w).trans (by kernel_rfl)
theorem Is_any (n m : Int) (qs : List ByteArray) (v : Value) (w : World) (hv : Errv w n qs v) :
    Calls Tryd.prog 41 #[v, .iface 25 (.int .i64 m)] w fun ev w' => ev = .returned (.bool (n == m)) ∧ w' = w := by
  have h54 := @run_callFunc_extern Tryd.prog 59 _ ReflectliteType.typeOf Tryd.func59 (by kernel_rfl) (by kernel_rfl) (by kernel_rfl) (by kernel_rfl)
  have h93 := Fa.call93
  have tO := Fa.typeOf25
  have mC := Fa.methodComparable
  have HV : Hid (Errv w n qs v) := hv
  obtain ⟨tu, vu, rfl⟩ := hv.iface
  clear hv
  go_enter Tryd.func41, Tryd.ntmps41
  go_wp2_with fail
  refine (is_loop n m qs _ w HV.out).mono ?_
  rintro e w' ⟨rfl, hw⟩
  subst w'
  obtain ⟨r, HR⟩ : ∃ r, Hid ((n == m) = r) := ⟨_, rfl⟩
  rw [HR.out]
  go_wp2
  go_ret
  exact ⟨ret_bool HR.out.symm, rfl⟩
theorem Is_nil (m : Int) (w : World) :
    Calls Tryd.prog 41 #[.nilIface, .iface 25 (.int .i64 m)] w fun ev w' => ev = .returned (.bool false) ∧ w' = w := by
  have hq := fun w => run_eql_iface_nil_left (P := Tryd.prog) (ti := 57) w 25 (.int .i64 m) Tryd.underlying57
  go_enter Tryd.func41, Tryd.ntmps41
  go_wp2
  go_ret
  exact ⟨rfl, rfl⟩

theorem fis_any (n m : Int) (qs : List ByteArray) (v : Value) (w : World) (hg : G w) (hv : Errv w n qs v) :
    Calls Tryd.prog 24 #[v, .int .i64 m] w fun ev w' => ev = .returned (.bool (n == m)) ∧ Below w.heap.size w w' := by
  have HG : Hid (G w) := hg
  have HV : Hid (Errv w n qs v) := hv
  clear hg hv
  go_enter Tryd.func24, Tryd.ntmps24
  go_wp2_with fail
  refine (endless_any n qs v w HG.out HV.out).mono ?_
  rintro e w2 ⟨rfl, hb2⟩
  have HB2 : Hid (Below w.heap.size w w2) := hb2
  clear hb2
  go_wp2_with fail
  refine (Is_any n m qs v w2 (HV.out.later HB2.out)).mono ?_
  rintro e w' ⟨rfl, hw⟩
  subst w'
  obtain ⟨r, HR⟩ : ∃ r, Hid ((n == m) = r) := ⟨_, rfl⟩
  rw [HR.out]
  go_wp2
  go_ret
  exact ⟨ret_bool HR.out.symm, HB2.out⟩
theorem fis_nil (m : Int) (w : World) :
    Calls Tryd.prog 24 #[.nilIface, .int .i64 m] w fun ev w' => ev = .returned (.bool false) ∧ Below w.heap.size w w' := by
  go_enter Tryd.func24, Tryd.ntmps24
  go_wp2_with fail
  refine (endless_nil w).mono ?_
  rintro e w2 ⟨rfl, hb2⟩
  have HB2 : Hid (Below w.heap.size w w2) := hb2
  clear hb2
  go_wp2_with fail
  refine (Is_nil m w2).mono ?_
  rintro e w' ⟨rfl, hw⟩
  subst w'
  go_wp2
  go_ret
  exact ⟨rfl, HB2.out⟩
end Go.Proofs.YtmlpneiadkngaaaDoor
