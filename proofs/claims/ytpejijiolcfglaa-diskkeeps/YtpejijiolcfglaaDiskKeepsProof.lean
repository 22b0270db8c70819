/-
  For every room, every list of calls and every two numbers: behind a crash each area has at least what was sure, and its bytes begin what it had (the law DiskKeeps returns true and leaves its arguments as they were).
-/
import Derived.Test.YtpejijiolcfglaaRows
import Derived.Test.YtpejijiolcfglaaDkJ
import Derived.Test.YtpejijiolcfglaaDkO
import Derived.Test.YtpejijiolcfglaaDkP
import Derived.Deep.CutRange
import Derived.WalkKit
import Derived.ProofKit
import Derived.OpenShut
import Derived.ShutString
import Derived.ChangeOld
import Derived.Below
namespace Go.Proofs.Ytpejijiolcfglaa.diskKeeps
open Go.ChangeShapes Go.WideShapes Go.ChangeAt Go.RowKit
open Go.ChangeMaps (open_string shut_string)
set_option linter.unusedSimpArgs false
set_option linter.unusedVariables false

theorem own : ownKnob Try.prog.godebug = none := by kernel_rfl
theorem laidOut : laidOutB Try.prog = true := by kernel_rfl

theorem al2 (w : World) (X Y : Array Value) (e f : TypeId) : Below w.heap.size w ((w.alloc (.cells X e)).alloc (.cells Y f)).drew ∧
    (∀ j v, X[j]? = some v → ((w.alloc (.cells X e)).alloc (.cells Y f)).drew.cell? ⟨w.heap.size, j, none⟩ = some v) ∧ (∀ j v, Y[j]? = some v → ((w.alloc (.cells X e)).alloc (.cells Y f)).drew.cell? ⟨w.heap.size + 1, j, none⟩ = some v) := by
  have hb : Below w.heap.size w ((w.alloc (.cells X e)).alloc (.cells Y f)) := ((Below.refl _ _).alloc (Nat.le_refl _) _).alloc (by show _ ≤ (w.heap.push _).size; simp) _
  refine ⟨below_drewN hb 1, fun j v hv => ?_, fun j v hv => ?_⟩
  · refine cell_of_heap (cur := X) (e := e) (mk := (0, 0)) ?_ hv
    show ((w.heap.push _).push _)[w.heap.size]? = _
    rw [Array.getElem?_push_lt (by simp)]
    simp
  · refine cell_of_heap (cur := Y) (e := f) (mk := (0, 0)) ?_ hv
    show ((w.heap.push _).push _)[w.heap.size + 1]? = _
    rw [show w.heap.size + 1 = (w.heap.push (.cells X e)).size by simp, Array.getElem?_push_size]

/-! The law returns true, and writes nothing that was there. -/
set_option maxRecDepth 100000 in
set_option maxHeartbeats 4000000 in
theorem walk (a0 : Int) (a1 : Option Addr) (len1 cap1 : Nat) (O1 : Nat → Opv) (a2_0 a2_1 : Int) (w : World) (w0 : (Lit.int .i64 a0).wf = true) (w1 : Ops w a1 len1 O1) (w2_0 : (Lit.int .u16 a2_0).wf = true) (w2_1 : (Lit.int .u16 a2_1).wf = true) :
    Calls Try.prog 4 #[.int .i64 a0, .slice a1 len1 cap1, .agg #[.int .u16 a2_0, .int .u16 a2_1]] w fun e w' => e = .returned (.bool true) ∧ Below w.heap.size w w' := by
  have hx0 := bounds_u16 w2_0
  have hx1 := bounds_u16 w2_1
  obtain ⟨k0, rfl⟩ : ∃ k : Nat, a2_0 = (k : Int) := ⟨a2_0.toNat, by omega⟩
  obtain ⟨k1, rfl⟩ : ∃ k : Nat, a2_1 = (k : Int) := ⟨a2_1.toNat, by omega⟩
  have hk0 : k0 < 65536 := by omega
  have hk1 : k1 < 65536 := by omega
  clear hx0 hx1 w2_0 w2_1
  have hbk : Below w.heap.size w (w.alloc (.cells #[.int .u16 (k0 : Nat), .int .u16 (k1 : Nat)] 28)) := (Below.refl _ _).alloc (Nat.le_refl _) _
  have hhk : (w.alloc (.cells #[.int .u16 (k0 : Nat), .int .u16 (k1 : Nat)] 28)).heap[w.heap.size]? = some (.cells #[.int .u16 (k0 : Nat), .int .u16 (k1 : Nat)] 28 (0, 0)) := by
    show (w.heap.push _)[w.heap.size]? = _
    simp
  have hzk : (w.alloc (.cells #[.int .u16 (k0 : Nat), .int .u16 (k1 : Nat)] 28)).heap.size = w.heap.size + 1 := by
    show (w.heap.push _).size = _
    simp
  have b0 : (w.alloc (.cells #[.int .u16 (k0 : Nat), .int .u16 (k1 : Nat)] 28)).cell? ⟨w.heap.size, 0, none⟩ = some (.int .u16 (k0 : Nat)) := cell_of_heap hhk rfl
  have b1 : (w.alloc (.cells #[.int .u16 (k0 : Nat), .int .u16 (k1 : Nat)] 28)).cell? ⟨w.heap.size, 1, none⟩ = some (.int .u16 (k1 : Nat)) := cell_of_heap hhk rfl
  clear hhk
  go_enter Try.func4, Try.ntmps4
  go_wp2_with fail
  generalize (w.alloc (.cells #[.int .u16 (k0 : Nat), .int .u16 (k1 : Nat)] 28)) = wk at *
  have HBK : Hid (Below w.heap.size w wk) := hbk
  clear hbk
  refine (dnew_any a0 wk (wk.heap.size ≤ ·) (fun x h => h)).mono ?_
  rintro e wa ⟨rfl, hD, hb⟩
  have hlt := hD.lt
  go_wp2_with fail
  refine (rnew_any a0 wa).mono ?_
  rintro e wb ⟨rfl, hR, hb2⟩
  generalize DS.new (min a0.toNat 1048576) = d0 at *
  have hbb : Below wk.heap.size wk wb := hb.trans (hb2.mono hb.size)
  have HB2 : Hid (Below w.heap.size w wb) := HBK.out.trans (hbb.mono HBK.out.size)
  have HC : Hid (wb.cell? ⟨w.heap.size, 0, none⟩ = some (.int .u16 (k0 : Nat)) ∧ wb.cell? ⟨w.heap.size, 1, none⟩ = some (.int .u16 (k1 : Nat))) := ⟨cell_later hbb b0, cell_later hbb b1⟩
  have t0 : Two wb (fun k => w.heap.size + 1 ≤ k ∧ k ≠ wa.heap.size) wk.heap.size wa.heap.size d0 := by
    have hl2 := hR.lt
    have hs1 := hb.size
    refine ⟨(hD.to (fun k hk hs => ⟨by omega, by omega⟩)).later hb2, hR, fun hc => hc.2 rfl, fun k hk => ⟨by omega, by omega⟩⟩
  have hgn : wk.heap.size < wa.heap.size := hlt
  rw [hzk] at t0 hgn
  generalize wa.heap.size = hh at *
  clear hD hR hb hb2 hlt hbb b0 b1 HBK hzk
  have hns : ¬ ((w.heap.size + 1 ≤ w.heap.size ∧ w.heap.size ≠ hh) ∨ w.heap.size = hh) := by omega
  have hnb : ∀ k, ((w.heap.size + 1 ≤ k ∧ k ≠ hh) ∨ k = hh) → w.heap.size ≤ k := fun k hk => by omega
  have HO : Hid (Ops w a1 len1 O1) := w1
  have hlen : len1 ≤ 9223372036854775807 := by have := w1.1; unfold maxLen at this; omega
  clear w1
  go_wp2_with fail
  go_loopw [22] (fun i wr => ∃ (k : Nat) (d : DS), k ≤ len1 ∧ i = .int .i64 k ∧ Hid (Two wr (fun k => w.heap.size + 1 ≤ k ∧ k ≠ hh) (w.heap.size + 1) hh d) ∧ Hid (Below w.heap.size w wr) ∧ Hid (wr.cell? ⟨w.heap.size, 0, none⟩ = some (.int .u16 (k0 : Nat)) ∧ wr.cell? ⟨w.heap.size, 1, none⟩ = some (.int .u16 (k1 : Nat)))) (fun i _ => len1 - (intOf i).toNat)
  case atStart => exact ⟨0, d0, by omega, rfl, t0, HB2, HC⟩
  case round =>
    clear t0 HB2 HC
    obtain ⟨k, d, hk, rfl, ht, hB, hC⟩ := hrel
    by_cases hlt : k < len1
    · obtain ⟨hok, bo, off, rfl, c0, c1, c2, c3, c4, c5⟩ := (HO.out.later hB.out).2 k hlt
      simp only [← Nat.add_assoc] at c1 c2 c3 c4 c5
      have hbx : Below wr.heap.size wr (wr.alloc (.cells #[.int .i64 (O1 k).kind, .int .i64 (O1 k).area, .string (O1 k).b, .int .i64 (O1 k).n, .int .u16 (O1 k).k0, .int .u16 (O1 k).k1] 30)) := (Below.refl _ _).alloc (Nat.le_refl _) _
      have tx := ht.out.later hbx
      have HX : Hid (Below w.heap.size w (wr.alloc (.cells #[.int .i64 (O1 k).kind, .int .i64 (O1 k).area, .string (O1 k).b, .int .i64 (O1 k).n, .int .u16 (O1 k).k0, .int .u16 (O1 k).k1] 30))) := hB.out.trans (hbx.mono hB.out.size)
      have x0 : Hid ((wr.alloc (.cells #[.int .i64 (O1 k).kind, .int .i64 (O1 k).area, .string (O1 k).b, .int .i64 (O1 k).n, .int .u16 (O1 k).k0, .int .u16 (O1 k).k1] 30)).cell? ⟨w.heap.size, 0, none⟩ = _) := cell_later hbx hC.out.1
      have x1 : Hid ((wr.alloc (.cells #[.int .i64 (O1 k).kind, .int .i64 (O1 k).area, .string (O1 k).b, .int .i64 (O1 k).n, .int .u16 (O1 k).k0, .int .u16 (O1 k).k1] 30)).cell? ⟨w.heap.size, 1, none⟩ = _) := cell_later hbx hC.out.2
      clear hbx
      by_cases h30 : k < 30
      · go_wp2_with fail
        generalize (wr.alloc (.cells #[.int .i64 (O1 k).kind, .int .i64 (O1 k).area, .string (O1 k).b, .int .i64 (O1 k).n, .int .u16 (O1 k).k0, .int .u16 (O1 k).k1] 30)) = wx at *
        refine (step_any _ _ _ d (O1 k) wx tx hok).mono ?_
        rintro e wy ⟨rfl, ⟨d', ty⟩, hf⟩
        have HY : Hid (Below w.heap.size w wy) := HX.out.trans (hf.below HX.out.size hnb)
        have y0 := hf.cell x0.out hns
        have y1 := hf.cell x1.out hns
        have HYC : Hid (wy.cell? ⟨w.heap.size, 0, none⟩ = some (.int .u16 (k0 : Nat)) ∧ wy.cell? ⟨w.heap.size, 1, none⟩ = some (.int .u16 (k1 : Nat))) := ⟨y0, y1⟩
        clear hf tx c0 c1 c2 c3 c4 c5 y0 y1 x0 x1
        go_wp2
        go_roundw
        case rel => exact ⟨k + 1, d', by omega, by go_num, ty, HY, HYC⟩
        case measure => simp [intOf]; omega
      · go_wp2
        generalize (wr.alloc (.cells #[.int .i64 (O1 k).kind, .int .i64 (O1 k).area, .string (O1 k).b, .int .i64 (O1 k).n, .int .u16 (O1 k).k0, .int .u16 (O1 k).k1] 30)) = wx at *
        go_roundw
        case rel => exact ⟨k + 1, d, by omega, by go_num, tx, HX, ⟨x0.out, x1.out⟩⟩
        case measure => simp [intOf]; omega
    · clear HO
      have hgl := ht.out.dk.lt
      have hhl := ht.out.rk.lt
      have hn1 : hh ≠ wr.heap.size := by omega
      have hn2 : hh ≠ wr.heap.size + 1 := by omega
      have hok := ht.out.rk.2
      obtain ⟨-, r1, r2, r3, r4, -⟩ := ht.out.rk.cells
      go_wp2
      go_cut [11, 12] from 34 (fun s t wc => ∃ p q, s = .pointer (some ⟨p, 0, none⟩) ∧ t = .pointer (some ⟨q, 0, none⟩) ∧ Hid (wc.cell? ⟨p, 0, none⟩ = some (.string (str d.b0)) ∧ wc.cell? ⟨p, 1, none⟩ = some (.string (str d.b1)) ∧ wc.cell? ⟨q, 0, none⟩ = some (.int .i64 (d.s0 : Nat)) ∧ wc.cell? ⟨q, 1, none⟩ = some (.int .i64 (d.s1 : Nat)) ∧ Below wr.heap.size wr wc ∧ wr.heap.size ≤ p ∧ wr.heap.size ≤ q))
      case first =>
        go_region
        all_goals go_wp2_with fail
        all_goals go_meet
        · obtain ⟨q1, q2, q3⟩ := al2 wr #[.string (str d.b0), .string (str d.b1)] #[.int .i64 (d.s0 : Nat), .int .i64 (d.s1 : Nat)] 41 42
          exact ⟨_, _, rfl, rfl, q2 0 _ rfl, q2 1 _ rfl, q3 0 _ rfl, q3 1 _ rfl, q1, Nat.le_refl _, Nat.le_succ _⟩
        · obtain ⟨q1, q2, q3⟩ := al2 wr #[.int .i64 (d.s0 : Nat), .int .i64 (d.s1 : Nat)] #[.string (str d.b0), .string (str d.b1)] 42 41
          exact ⟨_, _, rfl, rfl, q3 0 _ rfl, q3 1 _ rfl, q2 0 _ rfl, q2 1 _ rfl, q1, Nat.le_succ _, Nat.le_refl _⟩
      case rest =>
        obtain ⟨p, q, rfl, rfl, hP⟩ := hcut
        obtain ⟨P0, P1, P2, P3, hbc, hp, hq⟩ := hP.out
        have tc := ht.out.dk.later hbc
        have HBc : Hid (Below w.heap.size w wc) := hB.out.trans (hbc.mono hB.out.size)
        have kc0 := cell_later hbc hC.out.1
        have kc1 := cell_later hbc hC.out.2
        have hcr := dcrash_any (w.heap.size + 1) _ d k0 k1 wc tc hk0 hk1
        have st0 := DS.stay_le d.b0 d.s0 k0 hok.s0
        have st1 := DS.stay_le d.b1 d.s1 k1 hok.s1
        have hsum := hok.sum
        have hroom := hok.room
        have hlo : (d.crash k0 k1).lost = false := rfl
        have hD0 : (d.crash k0 k1).read 0 = ((d.crash k0 k1).b0, 0) := rfl
        have hD1 : (d.crash k0 k1).read 1 = ((d.crash k0 k1).b1, 0) := rfl
        have hE0 : (d.crash k0 k1).b0 = d.b0.take (DS.stay d.b0 d.s0 k0) := rfl
        have hE1 : (d.crash k0 k1).b1 = d.b1.take (DS.stay d.b1 d.s1 k1) := rfl
        have hl0 : (d.crash k0 k1).b0.length = DS.stay d.b0 d.s0 k0 := by rw [hE0, List.length_take]; omega
        have hl1 : (d.crash k0 k1).b1.length = DS.stay d.b1 d.s1 k1 := by rw [hE1, List.length_take]; omega
        have hsu0 : (d.crash k0 k1).sureOf 0 = DS.stay d.b0 d.s0 k0 := rfl
        have hsu1 : (d.crash k0 k1).sureOf 1 = DS.stay d.b1 d.s1 k1 := rfl
        generalize d.crash k0 k1 = D at *
        generalize DS.stay d.b0 d.s0 k0 = m0 at *
        generalize DS.stay d.b1 d.s1 k1 = m1 at *
        have i0 : (d.s0 : Int) ≤ (m0 : Int) := by omega
        have i1 : (d.s1 : Int) ≤ (m1 : Int) := by omega
        have j0 : (m0 : Int) ≤ (d.b0.length : Int) := by omega
        have j1 : (m1 : Int) ≤ (d.b1.length : Int) := by omega
        have g0a : decide (m0 < d.s0) = false := by simp; omega
        have g1a : decide (m1 < d.s1) = false := by simp; omega
        have g0b : decide (d.b0.length < m0) = false := by simp; omega
        have g1b : decide (d.b1.length < m1) = false := by simp; omega
        have z0 := str_size d.b0
        have z1 := str_size d.b1
        have u0 := str_take d.b0 m0
        have u1 := str_take d.b1 m1
        have hpg : p ≠ w.heap.size + 1 := by omega
        have hqg : q ≠ w.heap.size + 1 := by omega
        clear st0 st1 hbc hP hp hq ht hB hC tc
        go_wp2_with fail
        refine hcr.mono ?_
        clear hcr
        rintro e wd ⟨rfl, tD, hf⟩
        have HBd : Hid (Below w.heap.size w wd) := HBc.out.trans (hf.below HBc.out.size (fun j hj => by omega))
        have Pwd : Hid (wd.cell? ⟨p, 0, none⟩ = _ ∧ wd.cell? ⟨p, 1, none⟩ = _ ∧ wd.cell? ⟨q, 0, none⟩ = _ ∧ wd.cell? ⟨q, 1, none⟩ = _) := ⟨hf.cell P0 hpg, hf.cell P1 hpg, hf.cell P2 hqg, hf.cell P3 hqg⟩
        clear hf P0 P1 P2 P3 kc0 kc1 HBc
        have hld := dlost_any (w.heap.size + 1) _ D wd tD
        rw [hlo] at hld
        go_wp2_with fail
        refine hld.mono ?_
        clear hld
        rintro e we ⟨rfl, hw⟩
        subst we
        go_wp2
        refine wp_loop_rounds 3 ?_
        rw [rounds_succ]
        have hrd := dread_any (w.heap.size + 1) _ D 0 wd tD
        rw [hD0] at hrd
        go_wp2_with fail
        refine hrd.mono ?_
        clear hrd
        rintro e we ⟨v, rfl, ho, hbe⟩
        have twe := tD.later hbe
        have HBwe : Hid (Below w.heap.size w we) := HBd.out.trans (hbe.mono HBd.out.size)
        have Pwe : Hid (we.cell? ⟨p, 0, none⟩ = _ ∧ we.cell? ⟨p, 1, none⟩ = _ ∧ we.cell? ⟨q, 0, none⟩ = _ ∧ we.cell? ⟨q, 1, none⟩ = _) := ⟨cell_later hbe Pwd.out.1, cell_later hbe Pwd.out.2.1, cell_later hbe Pwd.out.2.2.1, cell_later hbe Pwd.out.2.2.2⟩
        obtain ⟨av0, nv0, cv0, rfl, hrow, -⟩ := ho.slice
        have hnv : nv0 = m0 := by rw [← hrow.1]; exact hl0
        subst hnv
        have hcv : ∀ j, (convert 33 9 (.slice av0 nv0 cv0)).run Try.prog (we.drewN j) = .ok (.string (str (d.b0.take nv0))) (we.drewN j) := fun j => by rw [← hE0]; exact conv_row hrow.drews cv0
        have HS16 : Hid (∀ j, Calls Try.prog 16 #[.pointer (some ⟨w.heap.size + 1, 0, none⟩), .int .i64 0] (we.drewN j) fun e w' => e = .returned (.int .i64 (nv0 : Nat)) ∧ w' = we.drewN j) := fun j => by
          have q := dsure_any (w.heap.size + 1) _ D 0 _ (twe.drews (k := j))
          rw [hsu0] at q
          exact q
        obtain ⟨p0, p1, p2, p3⟩ := Pwe.out
        clear hbe ho hrow
        go_wp2
        go_quiet ((exact Calls.quiet_of_same (HS16.out _)))
        go_wp2
        have twf := twe.drews (k := nq)
        have HBwf : Hid (Below w.heap.size w (we.drewN nq)) := below_drewN HBwe.out _
        have Pwf : Hid ((we.drewN nq).cell? ⟨p, 0, none⟩ = _ ∧ (we.drewN nq).cell? ⟨p, 1, none⟩ = _ ∧ (we.drewN nq).cell? ⟨q, 0, none⟩ = _ ∧ (we.drewN nq).cell? ⟨q, 1, none⟩ = _) := Pwe.out
        generalize we.drewN nq = wf at *
        clear p0 p1 p2 p3 HS16 hcv twe HBwe Pwe tD
        rw [rounds_succ]
        have hrd := dread_any (w.heap.size + 1) _ D 1 wf twf
        rw [hD1] at hrd
        go_wp2_with fail
        refine hrd.mono ?_
        clear hrd
        rintro e wg ⟨v, rfl, ho, hbe⟩
        have twg := twf.later hbe
        have HBwg : Hid (Below w.heap.size w wg) := HBwf.out.trans (hbe.mono HBwf.out.size)
        have Pwg : Hid (wg.cell? ⟨p, 0, none⟩ = _ ∧ wg.cell? ⟨p, 1, none⟩ = _ ∧ wg.cell? ⟨q, 0, none⟩ = _ ∧ wg.cell? ⟨q, 1, none⟩ = _) := ⟨cell_later hbe Pwf.out.1, cell_later hbe Pwf.out.2.1, cell_later hbe Pwf.out.2.2.1, cell_later hbe Pwf.out.2.2.2⟩
        obtain ⟨av1, nv1, cv1, rfl, hrow, -⟩ := ho.slice
        have hnv : nv1 = m1 := by rw [← hrow.1]; exact hl1
        subst hnv
        have hcv : ∀ j, (convert 33 9 (.slice av1 nv1 cv1)).run Try.prog (wg.drewN j) = .ok (.string (str (d.b1.take nv1))) (wg.drewN j) := fun j => by rw [← hE1]; exact conv_row hrow.drews cv1
        have HS16 : Hid (∀ j, Calls Try.prog 16 #[.pointer (some ⟨w.heap.size + 1, 0, none⟩), .int .i64 1] (wg.drewN j) fun e w' => e = .returned (.int .i64 (nv1 : Nat)) ∧ w' = wg.drewN j) := fun j => by
          have q := dsure_any (w.heap.size + 1) _ D 1 _ (twg.drews (k := j))
          rw [hsu1] at q
          exact q
        obtain ⟨p0, p1, p2, p3⟩ := Pwg.out
        clear hbe ho hrow
        go_wp2
        go_quiet ((exact Calls.quiet_of_same (HS16.out _)))
        go_wp2
        have twh := twg.drews (k := nq)
        have HBwh : Hid (Below w.heap.size w (wg.drewN nq)) := below_drewN HBwg.out _
        have Pwh : Hid ((wg.drewN nq).cell? ⟨p, 0, none⟩ = _ ∧ (wg.drewN nq).cell? ⟨p, 1, none⟩ = _ ∧ (wg.drewN nq).cell? ⟨q, 0, none⟩ = _ ∧ (wg.drewN nq).cell? ⟨q, 1, none⟩ = _) := Pwg.out
        generalize wg.drewN nq = wh at *
        clear p0 p1 p2 p3 HS16 hcv twg HBwg Pwg twf
        rw [rounds_succ]
        go_wp2_with fail
        refine (awake_true wh).mono ?_
        rintro e wi ⟨rfl, hbi⟩
        have HBi : Hid (Below w.heap.size w wi) := HBwh.out.trans (hbi.mono HBwh.out.size)
        clear hbi
        go_wp2
        go_ret
        exact ⟨rfl, HBi.out⟩

/-! From the call to the statement. -/
set_option maxRecDepth 100000 in
theorem lifted (os : Os) (started : os.Started) (H : Type) (enc : TypeId × Value → H) :
    ReturnsInHanded {} Try.checked os 4 .any (Rows.diskKeepsSpec.pre6 enc Try.prog Try.f4 Rows.diskKeepsRow.domain false) (Rows.diskKeepsSpec.post enc Try.prog Try.f4 false true false false) := by
  refine returnsInHanded_of_change (C := Try.checked) own started (by kernel_rfl) Try.func4
    (ChangeSpec.witness6 (enc := enc) (C := Try.checked) false ⟨#[], #[.int .i64 0, .slice none 0 0, .agg #[.int .u16 0, .int .u16 0]], []⟩ 8 (by kernel_rfl) (by kernel_rfl) (by kernel_rfl) (by kernel_rfl)) ?_
  intro W base args ds gs before hval0 hW hcnd _
  have hval : ∀ (j : Nat) t v, Try.f4.params[j]? = some t → args[j]? = some v → Value.okWide Try.prog W .any base t v := hval0
  have hW' := hW
  obtain ⟨p, q, hA0, hV, rfl, hfz, hnd⟩ := hW
  have hA : DataW.TrodAll enc Try.prog W 0 (fun _ => true) true Try.f4.params.toList args.toList ds p := hA0
  rw [Try.params4] at hA hval
  obtain ⟨v0, vs0, d0, ds0, p0, q0, hargs, rfl, rfl, h0, r0⟩ := trodAll_cons hA
  obtain ⟨v1, vs1, d1, ds1, p1, q1, rfl, rfl, rfl, h1, r1⟩ := trodAll_cons r0
  obtain ⟨v2, vs2, d2, ds2, p2, q2, rfl, rfl, rfl, h2, r2⟩ := trodAll_cons r1
  obtain ⟨rfl, rfl, rfl⟩ := trodAll_nil r2
  obtain rfl : args = #[v0, v1, v2] := by cases args; simp_all
  obtain ⟨rfl, rfl⟩ := trodVars_none hV
  obtain ⟨a0, rfl, rfl, rfl, w0⟩ := open_int Try.underlying3 (hval 0 3 v0 rfl rfl) h0
  obtain ⟨a1, len1, cap1, rfl⟩ := okWide_slice Try.underlying22 (hval 1 22 v1 rfl rfl)
  have k1 := h1
  have lt1 : ∀ x ∈ p1, x.block < W.heap.size := by obtain ⟨m, hm⟩ := k1; exact DataW.trod_lt m _ _ _ hm
  obtain ⟨O1, w1⟩ := open_ops h1
  have k2 := h2
  have lt2 : ∀ x ∈ p2, x.block < W.heap.size := by obtain ⟨m, hm⟩ := k2; exact DataW.trod_lt m _ _ _ hm
  obtain ⟨a2_0, a2_1, rfl, w2_0, w2_1⟩ := open_arr2_u16 (hval 2 28 v2 rfl rfl) h2
  clear hA0 hval0
  refine (walk a0 a1 len1 cap1 O1 a2_0 a2_1 W w0 w1 w2_0 w2_1).mono fun e W' ⟨he, bel⟩ => ?_
  subst he
  exact ⟨_, rfl, _, _, _, [], _, [], hW', trodAll_mk1 (shut_bool Try.underlying4 _), (trodAll_cons_mk (shut_int Try.underlying3 w0) (trodAll_cons_mk (Below.trod laidOut (by kernel_rfl) (of_decide_eq_true (by kernel_rfl)) k1 bel lt1) (trodAll_cons_mk (Below.trod laidOut (by kernel_rfl) (of_decide_eq_true (by kernel_rfl)) k2 bel lt2) trodAll_mk0))), rfl, bel.frame _, fun h => by cases h⟩

theorem over : Rows.diskKeepsRow.holds Try.pinned (OpenSpec.ofChange Rows.diskKeepsSpec) :=
  OpenClaim.holds_of_wide 4 Try.f4 rfl rfl rfl rfl rfl rfl rfl ⟨rfl, rfl, rfl, rfl, rfl⟩ rfl rfl rfl rfl rfl (by kernel_rfl) Try.func4 (by kernel_rfl)
    (of_decide_eq_true (by kernel_rfl)) (by unfold Func.isWrapper; first | (rw [if_pos (by decide +kernel)]; kernel_rfl) | (rw [if_neg (by decide +kernel)]; exact ⟨rfl, rfl⟩))
    (fun os started H enc _ => lifted os started H enc)
end Go.Proofs.Ytpejijiolcfglaa.diskKeeps
namespace Go.Proofs.Ytpejijiolcfglaa
theorem diskKeeps_holds : Rows.DiskKeepsSaid := diskKeeps.over
#print axioms diskKeeps_holds
end Go.Proofs.Ytpejijiolcfglaa
