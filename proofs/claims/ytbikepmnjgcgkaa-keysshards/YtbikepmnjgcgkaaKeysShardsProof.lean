/-
  The shards of keys are as the chapter says, rising, each once: the law KeysShards returns true at any texts and any number, and changes neither. No condition.
-/
import Derived.Test.YtbikepmnjgcgkaaRows
import Derived.Test.YtbikepmnjgcgkaaKeC
import Derived.SliceStrings
import Derived.WalkKit
import Derived.ProofKit
import Derived.OpenShut
import Derived.ShutString
import Derived.ChangeOld
import Derived.Below
namespace Go.Proofs.Ytbikepmnjgcgkaa.keysShards
open Go.ChangeShapes Go.WideShapes Go.ChangeAt Go.RowKit
open Go.ChangeMaps (open_string shut_string)
set_option linter.unusedSimpArgs false
set_option linter.unusedVariables false

theorem own : ownKnob Try.prog.godebug = none := by kernel_rfl
theorem laidOut : laidOutB Try.prog = true := by kernel_rfl

/-! The law returns true, and writes nothing that was there. -/
set_option maxRecDepth 100000 in
set_option maxHeartbeats 1000000 in
theorem walk (a0 : Option Addr) (len0 cap0 : Nat) (z0 : List ByteArray) (a1 : Int) (w : World) (w0 : Strs w a0 len0 z0) (w1 : (Lit.int .i64 a1).wf = true) :
    Calls Try.prog 10 #[.slice a0 len0 cap0, .int .i64 a1] w fun e w' => e = .returned (.bool true) ∧ Below w.heap.size w w' := by
  obtain ⟨hl, hx, hm, hr⟩ := w0
  unfold maxLen at hm
  have HX : Hid (∀ x ∈ z0, x.size ≤ maxLen) := hx
  have HR : Hid (len0 = 0 ∨ ∃ b off, a0 = some ⟨b, off, none⟩ ∧ ∀ j x, z0[j]? = some x → w.cell? ⟨b, off + j, none⟩ = some (.string x)) := hr
  clear hx hr w1
  go_enter Try.func10, Try.ntmps10
  go_wp2
  go_loopw [5, 13] (fun o i wr => ∃ (k : Nat) (ps : List ByteArray), k ≤ len0 ∧ i = .int .i64 (k : Nat) ∧ ps.length ≤ 20 ∧ Hid (∀ x ∈ ps, x.size ≤ 80) ∧ Hid (OwnV wr w.heap.size 9 o (ps.map .string)) ∧ Hid (Below w.heap.size w wr) ∧ Hid (ps.length ≤ k)) (fun o i wr => len0 - (intOf i).toNat)
  case atStart => exact ⟨0, [], by omega, rfl, by simp, by simp [Hid], OwnV.nil _ _ _, Below.refl _ _, by simp [Hid]⟩
  case round =>
    obtain ⟨k, ps, hk, rfl, hp, HS, HO, HW, HL⟩ := hrel
    have hsz := HW.out.size
    by_cases h0 : k < len0
    · obtain ⟨b, off, rfl, hc⟩ : ∃ b off, a0 = some ⟨b, off, none⟩ ∧ ∀ j x, z0[j]? = some x → w.cell? ⟨b, off + j, none⟩ = some (.string x) := by
        rcases HR.out with h | h
        · omega
        · exact h
      have hkl : k < z0.length := by omega
      have hc1 : wr.cell? ⟨b, off + k, none⟩ = some (.string z0[k]) := cell_later HW.out (hc k _ (List.getElem?_eq_getElem hkl))
      generalize z0[k] = x at hc1
      clear hc
      by_cases h20 : k < 20
      · have hpl : (ps.map Value.string).length ≤ 19 := by rw [List.length_map]; have := HL.out; omega
        have HPL : Hid ((ps.map Value.string).length ≤ 19) := hpl
        clear hpl
        go_wp2_with fail
        refine (short_any x _).mono ?_
        rintro e w1 ⟨rfl, hw⟩
        subst w1
        have hss := short_size x
        generalize short x = y at *
        go_wp2_with (at_builtin; refine wp_append_one 64 9 _ 16 Try.underlying64 Try.info_9 rfl rfl _ _ rfl w.heap.size _ _ rfl (HO.out.alloc _) _ _ (.string y) rfl (by simp) rfl (by have := HPL.out; omega) (by have := HPL.out; omega) (by simp; omega) ?_; intro v2 w2 ho2 hb2)
        go_roundw
        case rel => exact ⟨k + 1, ps ++ [y], by omega, by go_num, by have := HPL.out; rw [List.length_map] at this; simp; omega, by unfold Hid; intro z hz; rcases List.mem_append.1 hz with h | h; (exact HS.out z h); (simp at h; subst h; exact hss), by unfold Hid; rw [List.map_append]; exact ho2, (HW.out.alloc hsz _).trans hb2, by unfold Hid; have := HL.out; simp; omega⟩
        case measure => simp [intOf]; omega
      · go_wp2
        go_roundw
        case rel => exact ⟨k + 1, ps, by omega, by go_num, hp, HS, HO, HW, by unfold Hid; have := HL.out; omega⟩
        case measure => simp [intOf]; omega
    · obtain rfl : k = len0 := by omega
      obtain ⟨ao, cap, rfl, hcl, hcm, hnone, hsome⟩ := HO.out.shape
      rw [List.length_map] at hcl
      have hstr : Strs wr ao ps.length ps := by
        refine ⟨rfl, fun x hx => by have := HS.out x hx; unfold maxLen; omega, by unfold maxLen; omega, ?_⟩
        by_cases h0 : ps.length = 0
        · exact .inl h0
        · right
          cases ao with
          | none => have := (hnone rfl).1; simp at this; subst this; simp at h0
          | some ad =>
            obtain ⟨g, rfl, _, _, hcc⟩ := hsome ad rfl
            refine ⟨g, 0, rfl, fun j x hj => ?_⟩
            rw [Nat.zero_add]
            exact hcc j _ (by rw [List.getElem?_map, hj]; rfl)
      have HST : Hid (Strs wr ao ps.length ps) := hstr
      clear hstr hnone hsome HR
      rw [List.length_map]
      generalize hpl : ps.length = m at *
      have HPL : Hid (ps.length = m) := hpl
      clear hpl
      go_wp2_with fail
      refine (kshards_any ao m cap ps a1 _ HST.out).mono ?_
      rintro e w2 ⟨v2, rfl, ho2, hb2⟩
      have HO2 : Hid (OwnV w2 wr.heap.size 3 v2 (sel (inn ps a1) 4)) := ho2
      have HB2 : Hid (Below w.heap.size w w2) := HW.out.trans (hb2.mono hsz)
      have HST2 : Hid (Strs w2 ao m ps) := HST.out.later hb2
      clear ho2 hb2
      go_wp2_with fail
      refine (ref_shards_any ao m cap ps a1 _ HST2.out).mono ?_
      rintro e w3 ⟨v3, rfl, ho3, hb3⟩
      have HO2' : Hid (OwnV w3 wr.heap.size 3 v2 (sel (inn ps a1) 4)) := HO2.out.later hb3
      have HO3 : Hid (OwnV w3 w2.heap.size 3 v3 (sel (inn ps a1) 4)) := ho3
      have HB3 : Hid (Below w.heap.size w w3) := HB2.out.trans (hb3.mono HB2.out.size)
      clear ho3 hb3 HO2 HB2 HST HST2
      have hsl := sel_len (inn ps a1) 4
      obtain ⟨a2, c2, rfl, q1, q2, q3, q4⟩ := HO2'.out.shape
      obtain ⟨a3, c3, rfl, r1, r2, r3, r4⟩ := HO3.out.shape
      have HK : Hid (∀ j, j < (sel (inn ps a1) 4).length → ∃ g2 g3 x, a2 = some ⟨g2, 0, none⟩ ∧ a3 = some ⟨g3, 0, none⟩ ∧ w3.cell? ⟨g2, j, none⟩ = some (.int .i64 x) ∧ w3.cell? ⟨g3, j, none⟩ = some (.int .i64 x)) := by
        intro j hj
        have hel : ∃ x, (sel (inn ps a1) 4)[j]? = some (.int .i64 x) := by
          rw [List.getElem?_eq_getElem hj]
          have hmem := List.getElem_mem hj
          generalize (sel (inn ps a1) 4)[j] = u at hmem
          simp only [sel, List.mem_map] at hmem
          obtain ⟨i, _, rfl⟩ := hmem
          exact ⟨_, rfl⟩
        obtain ⟨x, hx⟩ := hel
        cases a2 with
        | none => have := (q3 rfl).1; rw [this] at hj; simp at hj
        | some ad2 =>
          cases a3 with
          | none => have := (r3 rfl).1; rw [this] at hj; simp at hj
          | some ad3 =>
            obtain ⟨g2, rfl, _, _, hc2⟩ := q4 ad2 rfl
            obtain ⟨g3, rfl, _, _, hc3⟩ := r4 ad3 rfl
            exact ⟨g2, g3, x, rfl, rfl, hc2 j _ hx, hc3 j _ hx⟩
      generalize hsm : (sel (inn ps a1) 4).length = t at *
      have HV0 : Hid ((∀ j, j < t → ∃ g2 g3 x, a2 = some ⟨g2, 0, none⟩ ∧ a3 = some ⟨g3, 0, none⟩ ∧ w3.cell? ⟨g2, j, none⟩ = some (.int .i64 x) ∧ w3.cell? ⟨g3, j, none⟩ = some (.int .i64 x)) ∧ Below w.heap.size w w3) := ⟨HK.out, HB3.out⟩
      clear hsm q3 q4 r3 r4 HO2' HO3 HK HB3
      go_wp2
      go_loopw [39] (fun i wx => ∃ (j : Nat), j ≤ t ∧ i = .int .i64 (j : Nat) ∧ Hid ((∀ j, j < t → ∃ g2 g3 x, a2 = some ⟨g2, 0, none⟩ ∧ a3 = some ⟨g3, 0, none⟩ ∧ wx.cell? ⟨g2, j, none⟩ = some (.int .i64 x) ∧ wx.cell? ⟨g3, j, none⟩ = some (.int .i64 x)) ∧ Below w.heap.size w wx)) (fun i wx => t - (intOf i).toNat)
      case atStart => exact ⟨0, by omega, rfl, HV0⟩
      case round =>
        clear HV0
        obtain ⟨j, hj, rfl, HV⟩ := hrel
        by_cases hjt : j < t
        · obtain ⟨g2, g3, x, rfl, rfl, e2, e3⟩ := HV.out.1 j hjt
          go_wp2
          go_quiet (fail)
          go_wp2
          go_roundw
          case rel => exact ⟨j + 1, by omega, by go_num, ⟨fun j hj => HV.out.1 j hj, below_drewN HV.out.2 _⟩⟩
          case measure => simp [intOf]; omega
        · have hBq := HV.out.2
          go_wp2_with fail
          refine (awake8_any _).mono ?_
          rintro e w5 ⟨rfl, hw⟩
          subst w5
          go_wp2
          go_ret
          exact ⟨rfl, hBq⟩

/-! From the call to the statement. -/
set_option maxRecDepth 100000 in
theorem lifted (os : Os) (started : os.Started) (H : Type) (enc : TypeId × Value → H) :
    ReturnsInHanded {} Try.checked os 10 .any (Rows.keysShardsSpec.pre6 enc Try.prog Try.f10 Rows.keysShardsRow.domain false) (Rows.keysShardsSpec.post enc Try.prog Try.f10 false true false false) := by
  refine returnsInHanded_of_change (C := Try.checked) own started (by kernel_rfl) Try.func10
    (ChangeSpec.witness6 (enc := enc) (C := Try.checked) false ⟨#[], #[.slice none 0 0, .int .i64 0], []⟩ 8 (by kernel_rfl) (by kernel_rfl) (by kernel_rfl) (by kernel_rfl)) ?_
  intro W base args ds gs before hval0 hW hcnd _
  have hval : ∀ (j : Nat) t v, Try.f10.params[j]? = some t → args[j]? = some v → Value.okWide Try.prog W .any base t v := hval0
  have hW' := hW
  obtain ⟨p, q, hA0, hV, rfl, hfz, hnd⟩ := hW
  have hA : DataW.TrodAll enc Try.prog W 0 (fun _ => true) true Try.f10.params.toList args.toList ds p := hA0
  rw [Try.params10] at hA hval
  obtain ⟨v0, vs0, d0, ds0, p0, q0, hargs, rfl, rfl, h0, r0⟩ := trodAll_cons hA
  obtain ⟨v1, vs1, d1, ds1, p1, q1, rfl, rfl, rfl, h1, r1⟩ := trodAll_cons r0
  obtain ⟨rfl, rfl, rfl⟩ := trodAll_nil r1
  obtain rfl : args = #[v0, v1] := by cases args; simp_all
  obtain ⟨rfl, rfl⟩ := trodVars_none hV
  obtain ⟨a0, len0, cap0, rfl⟩ := okWide_slice Try.underlying64 (hval 0 64 v0 rfl rfl)
  have k0 := h0
  have lt0 : ∀ x ∈ p0, x.block < W.heap.size := by obtain ⟨m, hm⟩ := k0; exact DataW.trod_lt m _ _ _ hm
  obtain ⟨z0, w0⟩ : ∃ ss, Strs W a0 len0 ss := by
    obtain ⟨fuel, hf⟩ := h0
    rcases open_strings Try.underlying64 Try.underlying9 (by kernel_rfl) hf with ⟨hcs, _⟩ | ⟨x, l, c, ss, hcs, _, hl, hm, hz, _, hcell, hwz⟩
    · simp [Value.cells] at hcs
      obtain ⟨rfl, rfl, rfl⟩ := hcs
      exact ⟨[], Strs.none⟩
    · simp [Value.cells] at hcs
      obtain ⟨rfl, rfl, rfl⟩ := hcs
      exact ⟨_, Strs.of hl hm (by simpa using hz) hcell hwz⟩
  obtain ⟨a1, rfl, rfl, rfl, w1⟩ := open_int Try.underlying3 (hval 1 3 v1 rfl rfl) h1
  clear hA0 hval0
  refine (walk a0 len0 cap0 z0 a1 W w0 w1).mono fun e W' ⟨he, bel⟩ => ?_
  subst he
  exact ⟨_, rfl, _, _, _, [], _, [], hW', trodAll_mk1 (shut_bool Try.underlying4 _), (trodAll_cons_mk (Below.trod laidOut (by kernel_rfl) (of_decide_eq_true (by kernel_rfl)) k0 bel lt0) (trodAll_cons_mk (shut_int Try.underlying3 w1) trodAll_mk0)), rfl, bel.frame _, fun h => by cases h⟩

theorem over : Rows.keysShardsRow.holds Try.pinned (OpenSpec.ofChange Rows.keysShardsSpec) :=
  OpenClaim.holds_of_wide 10 Try.f10 rfl rfl rfl rfl rfl rfl rfl ⟨rfl, rfl, rfl, rfl, rfl⟩ rfl rfl rfl rfl rfl (by kernel_rfl) Try.func10 (by kernel_rfl)
    (of_decide_eq_true (by kernel_rfl)) (by unfold Func.isWrapper; first | (rw [if_pos (by decide +kernel)]; kernel_rfl) | (rw [if_neg (by decide +kernel)]; exact ⟨rfl, rfl⟩))
    (fun os started H enc _ => lifted os started H enc)
end Go.Proofs.Ytbikepmnjgcgkaa.keysShards
namespace Go.Proofs.Ytbikepmnjgcgkaa
theorem keysShards_holds : Rows.KeysShardsSaid := keysShards.over
#print axioms keysShards_holds
end Go.Proofs.Ytbikepmnjgcgkaa
