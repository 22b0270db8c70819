/-
  For every room and every rows of bytes: there are never more bytes than room, whatever is asked; and what did not fit has changed nothing (the law DiskBounds returns true and leaves its arguments as they were).
-/
import Derived.Test.YtpejijiolcfglaaRows
import Derived.Test.YtpejijiolcfglaaDkJ
import Derived.Test.YtpejijiolcfglaaDkK
import Derived.WalkKit
import Derived.ProofKit
import Derived.OpenShut
import Derived.ShutString
import Derived.ChangeOld
import Derived.Below
import Derived.Deep.Matrix
namespace Go.Proofs.Ytpejijiolcfglaa.diskBounds
open Go.ChangeShapes Go.WideShapes Go.ChangeAt Go.RowKit
open Go.ChangeMaps (open_string shut_string)
set_option linter.unusedSimpArgs false
set_option linter.unusedVariables false

theorem own : ownKnob Try.prog.godebug = none := by kernel_rfl
theorem laidOut : laidOutB Try.prog = true := by kernel_rfl

/-- slices of rows of bytes, bs they lie in memory -/
def Rowss (w : World) (a : Option Addr) (len cap : Nat) (A : Nat → Option Addr) (L C : Nat → Nat) (Z : Nat → List Int) : Prop :=
  (a = none ∧ len = 0) ∨ ∃ x, a = some x ∧ len ≤ cap ∧ cap ≤ maxLen ∧ ∀ r, r < cap → w.cell? (x.add r) = some (.slice (A r) (L r) (C r)) ∧ IsRow .u8 w (A r) (L r) (C r) (Z r)
theorem Rowss.none {w : World} : Rowss w none 0 0 (fun _ => Option.none) (fun _ => 0) (fun _ => 0) (fun _ => []) := .inl ⟨rfl, rfl⟩
theorem Rowss.of {w : World} {x : Addr} {len cap : Nat} {A : Nat → Option Addr} {L C : Nat → Nat} {Z : Nat → List Int} {base : Nat} (hl : len ≤ cap) (hm : cap ≤ maxLen)
    (h : ∀ r, r < cap → w.cell? (x.add r) = some (.slice (A r) (L r) (C r)) ∧ L r ≤ C r ∧ C r ≤ maxLen ∧ (Z r).length = C r ∧ (∀ n ∈ Z r, (Lit.int .u8 n).wf = true) ∧ (A r = Option.none → C r = 0) ∧
        ∀ a', A r = some a' → base ≤ a'.block ∧ ∀ c, c < C r → w.cell? (a'.add c) = some (.int .u8 ((Z r).getD c 0))) : Rowss w (some x) len cap A L C Z := by
  refine .inr ⟨x, rfl, hl, hm, fun r hr => ?_⟩
  obtain ⟨h1, h2, h3, h4, h5, h6, h7⟩ := h r hr
  refine ⟨h1, ?_⟩
  cases ha : A r with
  | none =>
    have hc := h6 ha
    left
    exact ⟨rfl, by omega, hc, List.length_eq_zero_iff.1 (by omega)⟩
  | some a' => exact .inr ⟨a', rfl, h2, h3, h4, fun i hi => (h7 a' ha).2 i (by omega), h5⟩
theorem Rowss.at {w : World} {a : Option Addr} {len cap : Nat} {A : Nat → Option Addr} {L C : Nat → Nat} {Z : Nat → List Int} (h : Rowss w a len cap A L C Z) (h0 : 0 < len) :
    ∃ b off, a = some ⟨b, off, Option.none⟩ ∧ len ≤ maxLen ∧ ∀ r, r < len → w.cell? ⟨b, off + r, Option.none⟩ = some (.slice (A r) (L r) (C r)) ∧ IsRow .u8 w (A r) (L r) (C r) (Z r) := by
  rcases h with ⟨_, h⟩ | ⟨⟨b, off, spot⟩, rfl, hl, hm, hr⟩
  · omega
  · have hc := (hr 0 (by omega)).1
    have hspot : spot = Option.none := by simpa [Addr.add] using World.cell?_spot hc
    subst hspot
    refine ⟨b, off, rfl, by omega, fun r hrl => ?_⟩
    have := hr r (by omega)
    rw [add_none] at this
    exact this

/-- a disk that is never armed, of room R, on which so many bytes stand -/
structure Bd (d : DS) (R : Nat) (bs : List Nat) : Prop where
  lost : d.lost = false
  left : d.left = none
  le : bs.length ≤ R
  free : d.free = R - bs.length

theorem Bd.full {d : DS} {R : Nat} {bs ns : List Nat} {k : Int} (hk : k = 0 ∨ k = 1) (h : d.free < ns.length) : d.append k ns = (9, d) := by
  unfold DS.append
  rw [if_neg (fun h => h hk), if_pos h]

theorem Bd.fits {d : DS} {R : Nat} {bs ns : List Nat} {k : Int} (hb : Bd d R bs) (hok : d.ok) (hk : k = 0 ∨ k = 1) (h : ns.length ≤ d.free) : ∃ d', d.append k ns = (0, d') ∧ Bd d' R (bs ++ ns) := by
  have hw : d.write = (0, d) := by
    unfold DS.write
    rw [if_neg (by rw [hb.lost]; simp), hb.left]
  refine ⟨d.sets k (d.get k ++ ns) (d.sure k), ?_, ?_⟩
  · unfold DS.append
    rw [if_neg (fun h => h hk), if_neg (by omega), if_neg (by rw [hb.lost]; simp), hw]
  · have hf := hb.free
    have hl := hb.le
    have hs := hok.sum
    unfold DS.free at h hf
    rcases hk with rfl | rfl
    · refine ⟨hb.lost, hb.left, by rw [List.length_append]; omega, ?_⟩
      show d.room - (d.b0 ++ ns).length - d.b1.length = _
      rw [List.length_append, List.length_append]
      omega
    · refine ⟨hb.lost, hb.left, by rw [List.length_append]; omega, ?_⟩
      show d.room - d.b0.length - (d.b1 ++ ns).length = _
      rw [List.length_append, List.length_append]
      omega

/-! The law returns true, and writes nothing that was there. -/
set_option maxRecDepth 100000 in
set_option maxHeartbeats 4000000 in
theorem walk (a0 : Int) (a1 : Option Addr) (len1 cap1 : Nat) (A1 : Nat → Option Addr) (L1 C1 : Nat → Nat) (Z1 : Nat → List Int) (w : World) (w0 : (Lit.int .u8 a0).wf = true) (w1 : Rowss w a1 len1 cap1 A1 L1 C1 Z1) :
    Calls Try.prog 5 #[.int .u8 a0, .slice a1 len1 cap1] w fun e w' => e = .returned (.bool true) ∧ Below w.heap.size w w' := by
  have hx0 := bounds_u8 w0
  obtain ⟨R, rfl⟩ : ∃ k : Nat, a0 = (k : Int) := ⟨a0.toNat, by omega⟩
  have hR : R < 256 := by omega
  clear hx0 w0
  have hnw := dnew_any (R : Int) w (w.heap.size ≤ ·) (fun x h => h)
  rw [show min (R : Int).toNat 1048576 = R by simp; omega] at hnw
  have HW : Hid (Rowss w a1 len1 cap1 A1 L1 C1 Z1) := w1
  have hlen : len1 ≤ 9223372036854775807 := by
    rcases w1 with ⟨_, h⟩ | ⟨_, _, h1, h2, _⟩
    · omega
    · unfold maxLen at h2; omega
  clear w1
  go_enter Try.func5, Try.ntmps5
  go_wp2_with fail
  refine hnw.mono ?_
  clear hnw
  rintro e wa ⟨rfl, hD, hb⟩
  have HB : Hid (Below w.heap.size w wa) := hb
  have HD : Hid (Dk wa (w.heap.size ≤ ·) w.heap.size (DS.new R)) := hD
  clear hb hD
  go_wp2_with fail
  go_loopw [6, 16] (fun al i wr => ∃ (k : Nat) (d : DS) (bs : List Nat), k ≤ len1 ∧ k ≤ 20 ∧ bs.length ≤ 300 * k ∧ i = .int .i64 k ∧ al = .string (str bs) ∧ Hid (∀ x ∈ bs, x < 256) ∧ Hid (Bd d R bs) ∧ Hid (Dk wr (w.heap.size ≤ ·) w.heap.size d) ∧ Hid (Below w.heap.size w wr)) (fun _ i _ => len1 - (intOf i).toNat)
  case atStart => exact ⟨0, DS.new R, [], by omega, by omega, by simp, rfl, rfl, fun x hx => by simp at hx, ⟨rfl, rfl, by simp, by simp [DS.new, DS.free]⟩, HD, HB⟩
  case round =>
    clear HD HB
    obtain ⟨k, d, bs, hk, hk20, hal, rfl, rfl, hax, hbd, hD, hB⟩ := hrel
    by_cases hlt : k < len1
    · obtain ⟨b, off, hax2, _, hcell⟩ := HW.out.at (by omega)
      subst hax2
      obtain ⟨hc0, hrow0⟩ := hcell k hlt
      have hc := cell_later hB.out hc0
      have hrow := hrow0.row (L1 k) (Nat.le_refl _)
      have hz := hrow0.facts.2.2
      generalize A1 k = pa at hc hrow hz
      generalize L1 k = pl at hc hrow hz
      generalize C1 k = pc at hc hrow hz
      generalize Z1 k = pz at hc hrow hz
      clear hcell hc0 hrow0
      by_cases h20 : k < 20
      · by_cases h300 : pl ≤ 300
        · have hn1 : decide (20 ≤ (k : Int)) = false := by simp; omega
          have hn2 : decide (300 < (pl : Int)) = false := by simp; omega
          obtain ⟨ar, har2⟩ : ∃ ar : Int, (k : Int) % 2 = ar := ⟨_, rfl⟩
          have har : ar = 0 ∨ ar = 1 := by omega
          by_cases hfit : (firsts pz pl).length ≤ d.free
          · obtain ⟨d', happ, hb'⟩ := hbd.out.fits hD.out.good har hfit
            have hfree := hb'.free
            have hle' := hb'.le
            rw [List.length_append, hrow.1] at hle'
            have hifit : (bs.length : Int) + (pl : Int) ≤ (R : Int) := by omega
            have hasx : ∀ x ∈ bs ++ firsts pz pl, x < 256 := fun x hx => by
              rcases List.mem_append.1 hx with h1 | h1
              · exact hax.out x h1
              · exact hrow.2.1 x h1
            have HX : Hid (∀ x ∈ bs ++ firsts pz pl, x < 256) := hasx
            have HBD : Hid (Bd d' R (bs ++ firsts pz pl)) := hb'
            have hap := dappend_any w.heap.size (w.heap.size ≤ ·) d ar pa pl pc _ wr hD.out (fun k hk => Nat.le_trans hB.out.size hk) (hrow.later hB.out) hz
            rw [happ] at hap
            have hadd : ∀ w, _ := fun w => add_str bs (firsts pz pl) w (by rw [hrow.1]; omega)
            have hfd := HBD.out.free
            have hfl := HBD.out.le
            have hln := hrow.1
            have HRow : Hid (Row w pa pl (firsts pz pl)) := hrow
            clear happ hrow hb' hfree hasx
            generalize firsts pz pl = ns at *
            have hcl : (bs ++ ns).length ≤ 300 * (k + 1) := by rw [List.length_append, hln]; omega
            generalize bs ++ ns = cs at *
            have hfi : (d'.free : Int) = (R : Int) - (cs.length : Int) := by omega
            have zs := str_size cs
            have zb := str_size bs
            clear hfd hfit hln
            go_wp2_with fail
            refine hap.mono ?_
            clear hap
            rintro e wx ⟨rfl, hDx, hfx⟩
            have HBX : Hid (Below w.heap.size w wx) := hB.out.trans (hfx.below hB.out.size (fun _ h => h))
            have hcv := conv_row (HRow.out.later HBX.out) pc
            have hrm := droom_any w.heap.size _ _ wx hDx
            rw [hfi] at hrm
            clear hfx hfi
            go_wp2_with fail
            refine hrm.mono ?_
            clear hrm
            rintro e wy ⟨rfl, kd, hw⟩
            have HY : Hid (Below w.heap.size w wy) := by rw [hw]; exact below_drewN HBX.out kd
            have HDY : Hid (Dk wy (w.heap.size ≤ ·) w.heap.size d') := by rw [hw]; exact hDx.drews
            clear hw hDx hcv hc
            go_wp2
            go_roundw
            case rel => exact ⟨k + 1, d', cs, by omega, by omega, by omega, by go_num, rfl, HX, HBD, HDY, HY⟩
            case measure => simp [intOf]; omega
          · have happ := Bd.full (R := R) (bs := bs) har (show d.free < (firsts pz pl).length by omega)
            have hifit : (R : Int) < (bs.length : Int) + (pl : Int) := by have := hrow.1; have := hbd.out.free; omega
            have hap := dappend_any w.heap.size (w.heap.size ≤ ·) d ar pa pl pc _ wr hD.out (fun k hk => Nat.le_trans hB.out.size hk) (hrow.later hB.out) hz
            rw [happ] at hap
            have hadd : ∀ w, _ := fun w => add_str bs (firsts pz pl) w (by rw [hrow.1]; omega)
            have hfd := hbd.out.free
            have hfl := hbd.out.le
            have hln := hrow.1
            have HRow : Hid (Row w pa pl (firsts pz pl)) := hrow
            clear happ hrow 
            generalize firsts pz pl = ns at *
            have hfi : (d.free : Int) = (R : Int) - (bs.length : Int) := by omega
            have zs := str_size bs
            have zb := str_size bs
            clear hfd hfit hln
            go_wp2_with fail
            refine hap.mono ?_
            clear hap
            rintro e wx ⟨rfl, hDx, hfx⟩
            have HBX : Hid (Below w.heap.size w wx) := hB.out.trans (hfx.below hB.out.size (fun _ h => h))
            have hcv := conv_row (HRow.out.later HBX.out) pc
            have hrm := droom_any w.heap.size _ _ wx hDx
            rw [hfi] at hrm
            clear hfx hfi
            go_wp2_with fail
            refine hrm.mono ?_
            clear hrm
            rintro e wy ⟨rfl, kd, hw⟩
            have HY : Hid (Below w.heap.size w wy) := by rw [hw]; exact below_drewN HBX.out kd
            have HDY : Hid (Dk wy (w.heap.size ≤ ·) w.heap.size d) := by rw [hw]; exact hDx.drews
            clear hw hDx hcv hc
            go_wp2
            go_roundw
            case rel => exact ⟨k + 1, d, bs, by omega, by omega, by omega, by go_num, rfl, hax, hbd, HDY, HY⟩
            case measure => simp [intOf]; omega
        · have hn1 : decide (20 ≤ (k : Int)) = false := by simp; omega
          have hn2 : decide (300 < (pl : Int)) = true := by simp; omega
          clear hrow hz
          go_wp2_with fail
          refine (awake_true wr).mono ?_
          rintro e we ⟨rfl, hbe⟩
          have HBE : Hid (Below w.heap.size w we) := hB.out.trans (hbe.mono hB.out.size)
          clear hbe
          go_wp2
          go_ret
          exact ⟨rfl, HBE.out⟩
      · have hn1 : decide (20 ≤ (k : Int)) = true := by simp; omega
        clear hrow hz
        go_wp2_with fail
        refine (awake_true wr).mono ?_
        rintro e we ⟨rfl, hbe⟩
        have HBE : Hid (Below w.heap.size w we) := hB.out.trans (hbe.mono hB.out.size)
        clear hbe
        go_wp2
        go_ret
        exact ⟨rfl, HBE.out⟩
    · go_wp2_with fail
      refine (awake_true wr).mono ?_
      rintro e we ⟨rfl, hbe⟩
      have HBE : Hid (Below w.heap.size w we) := hB.out.trans (hbe.mono hB.out.size)
      clear hbe
      go_wp2
      go_ret
      exact ⟨rfl, HBE.out⟩

/-! From the call to the statement. -/
set_option maxRecDepth 100000 in
theorem lifted (os : Os) (started : os.Started) (H : Type) (enc : TypeId × Value → H) :
    ReturnsInHanded {} Try.checked os 5 .any (Rows.diskBoundsSpec.pre6 enc Try.prog Try.f5 Rows.diskBoundsRow.domain false) (Rows.diskBoundsSpec.post enc Try.prog Try.f5 false true false false) := by
  refine returnsInHanded_of_change (C := Try.checked) own started (by kernel_rfl) Try.func5
    (ChangeSpec.witness6 (enc := enc) (C := Try.checked) false ⟨#[], #[.int .u8 0, .slice none 0 0], []⟩ 8 (by kernel_rfl) (by kernel_rfl) (by kernel_rfl) (by kernel_rfl)) ?_
  intro W base args ds gs before hval0 hW hcnd _
  have hval : ∀ (j : Nat) t v, Try.f5.params[j]? = some t → args[j]? = some v → Value.okWide Try.prog W .any base t v := hval0
  have hW' := hW
  obtain ⟨p, q, hA0, hV, rfl, hfz, hnd⟩ := hW
  have hA : DataW.TrodAll enc Try.prog W 0 (fun _ => true) true Try.f5.params.toList args.toList ds p := hA0
  rw [Try.params5] at hA hval
  obtain ⟨v0, vs0, d0, ds0, p0, q0, hargs, rfl, rfl, h0, r0⟩ := trodAll_cons hA
  obtain ⟨v1, vs1, d1, ds1, p1, q1, rfl, rfl, rfl, h1, r1⟩ := trodAll_cons r0
  obtain ⟨rfl, rfl, rfl⟩ := trodAll_nil r1
  obtain rfl : args = #[v0, v1] := by cases args; simp_all
  obtain ⟨rfl, rfl⟩ := trodVars_none hV
  obtain ⟨a0, rfl, rfl, rfl, w0⟩ := open_int Try.underlying5 (hval 0 5 v0 rfl rfl) h0
  obtain ⟨a1, len1, cap1, rfl⟩ := okWide_slice Try.underlying48 (hval 1 48 v1 rfl rfl)
  have k1 := h1
  have lt1 : ∀ x ∈ p1, x.block < W.heap.size := by obtain ⟨m, hm⟩ := k1; exact DataW.trod_lt m _ _ _ hm
  obtain ⟨A1, L1, C1, Z1, w1⟩ : ∃ A L C Z, Rowss W a1 len1 cap1 A L C Z := by
    obtain ⟨fuel, hf⟩ := h1
    rcases Go.Deep.open_int_rows Try.underlying48 Try.underlying33 Try.underlying5 (by kernel_rfl) (by kernel_rfl) hf with ⟨hcs, _⟩ | ⟨x, l, c, AA, LL, CC, ZZ, hcs, _, hl, hm, _, hrow⟩
    · simp [Value.cells] at hcs
      obtain ⟨rfl, rfl, rfl⟩ := hcs
      exact ⟨_, _, _, _, Rowss.none⟩
    · simp [Value.cells] at hcs
      obtain ⟨rfl, rfl, rfl⟩ := hcs
      exact ⟨AA, LL, CC, ZZ, Rowss.of hl hm hrow⟩
  clear hA0 hval0
  refine (walk a0 a1 len1 cap1 A1 L1 C1 Z1 W w0 w1).mono fun e W' ⟨he, bel⟩ => ?_
  subst he
  exact ⟨_, rfl, _, _, _, [], _, [], hW', trodAll_mk1 (shut_bool Try.underlying4 _), (trodAll_cons_mk (shut_int Try.underlying5 w0) (trodAll_cons_mk (Below.trod laidOut (by kernel_rfl) (of_decide_eq_true (by kernel_rfl)) k1 bel lt1) trodAll_mk0)), rfl, bel.frame _, fun h => by cases h⟩

theorem over : Rows.diskBoundsRow.holds Try.pinned (OpenSpec.ofChange Rows.diskBoundsSpec) :=
  OpenClaim.holds_of_wide 5 Try.f5 rfl rfl rfl rfl rfl rfl rfl ⟨rfl, rfl, rfl, rfl, rfl⟩ rfl rfl rfl rfl rfl (by kernel_rfl) Try.func5 (by kernel_rfl)
    (of_decide_eq_true (by kernel_rfl)) (by unfold Func.isWrapper; first | (rw [if_pos (by decide +kernel)]; kernel_rfl) | (rw [if_neg (by decide +kernel)]; exact ⟨rfl, rfl⟩))
    (fun os started H enc _ => lifted os started H enc)
end Go.Proofs.Ytpejijiolcfglaa.diskBounds
namespace Go.Proofs.Ytpejijiolcfglaa
theorem diskBounds_holds : Rows.DiskBoundsSaid := diskBounds.over
#print axioms diskBounds_holds
end Go.Proofs.Ytpejijiolcfglaa
