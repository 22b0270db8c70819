/- The law's own space: Put: contracts. -/
import Derived.Test.YtmahigfamgbhfaaSpN
import Derived.Test.YtmahigfamgbhfaaKeB
import Derived.Test.YtmahigfamgbhfaaObE
import Derived.Deep.Cut
namespace Go.Proofs.Ytmahigfamgbhfaa
open Go.RowKit Go.Maps
set_option linter.unusedVariables false
set_option linter.unusedSimpArgs false

/-- a copy of versions -/
theorem wp_append_vcopy {w : World} {ops : Array Oper} {rest : List Oper} {o : Oper} {a : Act} {Q : Exit → Act → World → Prop} (hgd : o.guard = none) (s x : Operand)
    (ho : o.op = .call { callee := .builtin .append, args := #[s, x], argTypes := #[22, 22] })
    (base : Nat) (v : Value) (l : List Ver) (hs : a.eval s = v) (hown : VOwn w base 43 v [])
    (xa : Option Addr) (n c : Nat) (hx : a.eval x = .slice xa n c) (hr : VRow w xa n l) (h0 : xa = none → c = 0) (hn : n ≤ 1000000000) (hbase : base ≤ w.heap.size)
    (h : ∀ v' w', VOwn w' base 43 v' l → Below base w w' → w.grownBy w' v.ownBlock → wpList Try.prog ops Q rest (a.put o.dst v') w') : wpList Try.prog ops Q (o :: rest) a w := by
  obtain ⟨i0, hi, hz0, hz1, hz2⟩ := info_parts Try.info_43
  have hlen := hr.1
  cases xa with
  | none =>
    have e0 : n = 0 := by
      rcases hr.2.2.2 with e | ⟨b, off, e, _⟩
      · rw [← hlen, e]; rfl
      · cases e
    subst e0
    have e1 : l = [] := List.length_eq_zero_iff.1 hlen
    rw [h0 rfl] at hx
    refine wpList_append_own_none hgd s x 22 ho base 43 i0 4 Try.underlying22 hi v 0 [] hs hown.1 hx ?_
    exact h v w (by rw [e1]; exact hown) (Below.refl _ _) (World.grownBy.refl _ _)
  | some ad =>
    refine wpList_append_own w hgd s x 22 ho base 43 i0 _ 4 40 Try.underlying22 hi hz0 hz1 hz2 rfl (by decide) v _ _ hs hown.1 ad n c (cellsL l) hx (by rw [cellsL_length, hlen]) ?_ (cellsL_one l) (by simp; unfold maxLen; omega) (by simp; omega) hbase ?_
    · intro j u hj
      have hne : l ≠ [] := fun e => by rw [e] at hj; simp [cellsL] at hj
      obtain ⟨b, off, e, _⟩ := hr.at (by rw [← hlen]; exact List.length_pos_iff.2 hne)
      simp only [Option.some.injEq] at e
      subst e
      rw [Addr.add_lit]
      exact hr.news j u hj
    · intro v' w' k1 k2 _
      refine h v' w' ⟨?_, hr.2.1⟩ ((Below.refl _ _).grown k2 hbase (fun k hk => (World.ownsRow.lt hown.1 k hk).1)) k2
      have k3 := k1
      simp only [List.length_nil, Nat.zero_add] at k3
      rw [hlen]
      simpa [cellsL] using k3
set_option maxRecDepth 100000 in
set_option maxHeartbeats 4000000 in
theorem rput_no (gr : Nat) (L : List LRow) (key : ByteArray) (p : Int) (val : ByteArray) (gn : Bool) (w : World) (h : Rs w gr L) (hs : key.size ≤ maxLen) (hv : val.size ≤ maxLen) (hno : right key = false ∨ p < 1 ∨ p ≤ (lastL (ofL L key)).pos ∨ may val gn = false) :
    Calls Try.prog 48 #[.pointer (some ⟨gr, 0, none⟩), .string key, .int .i64 p, .string val, .bool gn] w fun e w' => e = .returned (.int .i64 1) ∧ Below w.heap.size w w' := by
  have h1 := of_any gr L key w h
  have HRS : Hid (Rs w gr L) := h
  generalize ofL L key = l at *
  clear h
  go_enter Try.func48, Try.ntmps48
  go_wp2_with fail
  refine h1.mono ?_
  clear h1
  rintro e w1 ⟨u, rfl, hu, hb1⟩
  obtain ⟨ua, uk, uc, rfl, hv1, hv0⟩ := hu
  have HB1 : Hid (Below w.heap.size w w1) := hb1
  have HV1 : Hid (VRow w1 ua uk l) := hv1
  have HV0 : Hid (ua = none → uc = 0) := hv0
  have HBA : Hid (Below w1.heap.size w1 (w1.alloc (.cells #[.int .i64 0, .int .u64 0, .string ⟨#[]⟩, .bool false] 43))) := (Below.refl _ _).alloc (Nat.le_refl _) _
  have HVA : Hid (VarV (w1.alloc (.cells #[.int .i64 0, .int .u64 0, .string ⟨#[]⟩, .bool false] 43)) w1.heap.size 43 Ver.zero) := heap_alloc_new w1 _
  have HP : Hid (w.heap.size ≤ w1.heap.size) := HB1.out.size
  have hulen : uk ≤ 9223372036854775807 := by have := hv1.2.2.1; unfold maxLen at this; omega
  clear hb1 hv1 hv0
  rcases Nat.eq_zero_or_pos uk with rfl | hpos
  · have HL3 : Hid (VarV (w1.alloc (.cells #[.int .i64 0, .int .u64 0, .string ⟨#[]⟩, .bool false] 43)) w1.heap.size 43 (lastL l)) := by rw [lastL, nth_ge l _ (by have := HV1.out.1; omega)]; exact HVA.out
    have HB3 : Hid (Below w.heap.size w (w1.alloc (.cells #[.int .i64 0, .int .u64 0, .string ⟨#[]⟩, .bool false] 43))) := HB1.out.trans (HBA.out.mono HB1.out.size)
    have HV3 : Hid (VRow (w1.alloc (.cells #[.int .i64 0, .int .u64 0, .string ⟨#[]⟩, .bool false] 43)) ua 0 l) := HV1.out.later HBA.out
    clear HVA HBA HV1 HB1
    go_upto_region 5 with fail
    generalize w1.alloc (.cells #[.int .i64 0, .int .u64 0, .string ⟨#[]⟩, .bool false] 43) = w3 at *
    generalize w1.heap.size = pv at *
    obtain ⟨q0, q1, q2, q3⟩ := HL3.out.cells
    
    cases hk : right key
    · go_wp2_with fail
      refine (ref_right_any key _ hs).mono ?_
      rw [hk]
      rintro e wx ⟨rfl, rfl⟩
      go_wp2
      go_ret
      exact ⟨rfl, HB3.out⟩
    · by_cases h1 : p < 1
      · go_wp2_with fail
        refine (ref_right_any key _ hs).mono ?_
        rw [hk]
        rintro e wx ⟨rfl, rfl⟩
        go_wp2
        go_ret
        exact ⟨rfl, HB3.out⟩
      · by_cases h2 : p ≤ (lastL l).pos
        · go_wp2_with fail
          refine (ref_right_any key _ hs).mono ?_
          rw [hk]
          rintro e wx ⟨rfl, rfl⟩
          go_wp2
          go_ret
          exact ⟨rfl, HB3.out⟩
        · have h3 : may val gn = false := by
            rcases hno with h | h | h | h
            · rw [hk] at h; cases h
            · exact absurd h h1
            · exact absurd h h2
            · exact h
          go_wp2_with fail
          refine (ref_right_any key _ hs).mono ?_
          rw [hk]
          rintro e wx ⟨rfl, rfl⟩
          go_wp2_with fail
          refine (ref_may_any val gn _ hv).mono ?_
          rw [h3]
          rintro e wy ⟨rfl, rfl⟩
          go_wp2
          go_ret
          exact ⟨rfl, HB3.out⟩
  · obtain ⟨k, rfl⟩ : ∃ k, uk = k + 1 := ⟨uk - 1, by omega⟩
    obtain ⟨b, off, rfl, hc⟩ := (HV1.out.later HBA.out).at (by omega)
    obtain ⟨c0, c1, c2, c3⟩ := hc k (by omega)
    clear hc
    have f0 := HVA.out.free 0
    have f1 := HVA.out.free 1
    have f2 := HVA.out.free 2
    have f3 := HVA.out.free 3
    have y0 := HVA.out.cells
    have hwr : IntKind.i64.wrap (((k + 1 : Nat) : Int) - 1) = (k : Nat) := by rw [IntWalk.i64_in _ ⟨by omega, by omega⟩]; omega
    have HL3 : Hid (VarV (w1.alloc (.cells #[.int .i64 (nth l k).pos, .int .u64 ((nth l k).num : Nat), .string (nth l k).val, .bool (nth l k).gone] 43)) w1.heap.size 43 (lastL l)) := by rw [lastL, HV1.out.1, Nat.add_sub_cancel]; exact heap_alloc_new w1 _
    have HB2 : Hid (Below w1.heap.size w1 (w1.alloc (.cells #[.int .i64 (nth l k).pos, .int .u64 ((nth l k).num : Nat), .string (nth l k).val, .bool (nth l k).gone] 43))) := (Below.refl _ _).alloc (Nat.le_refl _) _
    have HB3 : Hid (Below w.heap.size w (w1.alloc (.cells #[.int .i64 (nth l k).pos, .int .u64 ((nth l k).num : Nat), .string (nth l k).val, .bool (nth l k).gone] 43))) := HB1.out.trans (HB2.out.mono HB1.out.size)
    have HV3 : Hid (VRow (w1.alloc (.cells #[.int .i64 (nth l k).pos, .int .u64 ((nth l k).num : Nat), .string (nth l k).val, .bool (nth l k).gone] 43)) (some ⟨b, off, none⟩) (k + 1) l) := HV1.out.later HB2.out
    clear HVA HBA HV1 HB1 HB2
    go_upto_region 5 with fail
    generalize w1.alloc (.cells #[.int .i64 (nth l k).pos, .int .u64 ((nth l k).num : Nat), .string (nth l k).val, .bool (nth l k).gone] 43) = w3 at *
    generalize w1.heap.size = pv at *
    obtain ⟨q0, q1, q2, q3⟩ := HL3.out.cells
    
    cases hk : right key
    · go_wp2_with fail
      refine (ref_right_any key _ hs).mono ?_
      rw [hk]
      rintro e wx ⟨rfl, rfl⟩
      go_wp2
      go_ret
      exact ⟨rfl, HB3.out⟩
    · by_cases h1 : p < 1
      · go_wp2_with fail
        refine (ref_right_any key _ hs).mono ?_
        rw [hk]
        rintro e wx ⟨rfl, rfl⟩
        go_wp2
        go_ret
        exact ⟨rfl, HB3.out⟩
      · by_cases h2 : p ≤ (lastL l).pos
        · go_wp2_with fail
          refine (ref_right_any key _ hs).mono ?_
          rw [hk]
          rintro e wx ⟨rfl, rfl⟩
          go_wp2
          go_ret
          exact ⟨rfl, HB3.out⟩
        · have h3 : may val gn = false := by
            rcases hno with h | h | h | h
            · rw [hk] at h; cases h
            · exact absurd h h1
            · exact absurd h h2
            · exact h
          go_wp2_with fail
          refine (ref_right_any key _ hs).mono ?_
          rw [hk]
          rintro e wx ⟨rfl, rfl⟩
          go_wp2_with fail
          refine (ref_may_any val gn _ hv).mono ?_
          rw [h3]
          rintro e wy ⟨rfl, rfl⟩
          go_wp2
          go_ret
          exact ⟨rfl, HB3.out⟩
set_option maxRecDepth 100000 in
set_option maxHeartbeats 4000000 in
theorem rput_ok (gr : Nat) (L : List LRow) (key : ByteArray) (p : Int) (val : ByteArray) (gn : Bool) (w : World) (h : Rs w gr L) (hs : key.size ≤ maxLen) (hv : val.size ≤ maxLen) (hpw : (Lit.int .i64 p).wf = true) (hk : right key = true) (h1p : 1 ≤ p) (hp : (lastL (ofL L key)).pos < p) (hmay : may val gn = true) (hfull : (lastL (ofL L key)).num < 18446744073709551615) (hshort : (ofL L key).length < 1000000) (hL : L.length < 1000000) :
    Calls Try.prog 48 #[.pointer (some ⟨gr, 0, none⟩), .string key, .int .i64 p, .string val, .bool gn] w fun e w' => e = .returned (.int .i64 0) ∧ Rs w' gr (setL L key (ofL L key ++ [⟨p, (lastL (ofL L key)).num + 1, val, gn⟩])) ∧ w.grownBy w' (some gr) := by
  have h1 := of_any gr L key w h
  have HRS : Hid (Rs w gr L) := h
  generalize ofL L key = l at *
  have HOK : Hid ((⟨p, (lastL l).num + 1, val, gn⟩ : Ver).ok) := ⟨hpw, by show (lastL l).num + 1 < _; omega, hv⟩
  clear h
  go_enter Try.func48, Try.ntmps48
  go_wp2_with fail
  refine h1.mono ?_
  clear h1
  rintro e w1 ⟨u, rfl, hu, hb1⟩
  obtain ⟨ua, uk, uc, rfl, hv1, hv0⟩ := hu
  have HB1 : Hid (Below w.heap.size w w1) := hb1
  have HV1 : Hid (VRow w1 ua uk l) := hv1
  have HV0 : Hid (ua = none → uc = 0) := hv0
  have HBA : Hid (Below w1.heap.size w1 (w1.alloc (.cells #[.int .i64 0, .int .u64 0, .string ⟨#[]⟩, .bool false] 43))) := (Below.refl _ _).alloc (Nat.le_refl _) _
  have HVA : Hid (VarV (w1.alloc (.cells #[.int .i64 0, .int .u64 0, .string ⟨#[]⟩, .bool false] 43)) w1.heap.size 43 Ver.zero) := heap_alloc_new w1 _
  have HP : Hid (w.heap.size ≤ w1.heap.size) := HB1.out.size
  have hulen : uk ≤ 9223372036854775807 := by have := hv1.2.2.1; unfold maxLen at this; omega
  have hus : uk < 1000000 := by rw [← hv1.1]; exact hshort
  clear hb1 hv1 hv0
  rcases Nat.eq_zero_or_pos uk with rfl | hpos
  · have HL3 : Hid (VarV (w1.alloc (.cells #[.int .i64 0, .int .u64 0, .string ⟨#[]⟩, .bool false] 43)) w1.heap.size 43 (lastL l)) := by rw [lastL, nth_ge l _ (by have := HV1.out.1; omega)]; exact HVA.out
    have HB3 : Hid (Below w.heap.size w (w1.alloc (.cells #[.int .i64 0, .int .u64 0, .string ⟨#[]⟩, .bool false] 43))) := HB1.out.trans (HBA.out.mono HB1.out.size)
    have HV3 : Hid (VRow (w1.alloc (.cells #[.int .i64 0, .int .u64 0, .string ⟨#[]⟩, .bool false] 43)) ua 0 l) := HV1.out.later HBA.out
    clear HVA HBA HV1 HB1
    go_upto_region 5 with fail
    generalize w1.alloc (.cells #[.int .i64 0, .int .u64 0, .string ⟨#[]⟩, .bool false] 43) = w3 at *
    generalize w1.heap.size = pv at *
    obtain ⟨q0, q1, q2, q3⟩ := HL3.out.cells
    
    have hn1 : IntKind.u64.wrap (((lastL l).num : Int) + 1) = (((lastL l).num + 1 : Nat) : Int) := by rw [IntWalk.u64_in _ ⟨by omega, by omega⟩]; omega
    have h1 : ¬ p < 1 := by omega
    have h2 : ¬ p ≤ (lastL l).pos := by omega
    have HR3 : Hid (Rs w3 gr L) := HRS.out.later HB3.out
    go_wp2_with fail
    refine (ref_right_any key _ hs).mono ?_
    rw [hk]
    rintro e wx ⟨rfl, rfl⟩
    go_wp2_with fail
    refine (ref_may_any val gn _ hv).mono ?_
    rw [hmay]
    rintro e wy ⟨rfl, rfl⟩
    have HB4 : Hid (Below wy.heap.size wy (wy.alloc (.cells #[] 43))) := (Below.refl _ _).alloc (Nat.le_refl _) _
    have HO4 : Hid (VOwn (wy.alloc (.cells #[] 43)) wy.heap.size 43 (.slice (some ⟨wy.heap.size, 0, none⟩) 0 0) []) := ⟨⟨rfl, .inr ⟨_, _, _, rfl, Nat.le_refl _, heap_alloc_new wy _, by simp, by simp, by simp, by simp [cellsL]⟩⟩, by simp⟩
    have HV4 : Hid (VRow (wy.alloc (.cells #[] 43)) ua 0 l) := HV3.out.later HB4.out
    go_wp2_with (first | (at_builtin; refine wp_append_vcopy rfl _ _ rfl wy.heap.size _ l rfl HO4.out _ _ _ rfl HV4.out HV0.out (by omega) HB4.out.size ?_; intro v5 w5 ho5 hb5 hg5; have HB5 : Hid (Below wy.heap.size wy w5) := HB4.out.trans hb5; have HO5 : Hid (VOwn w5 wy.heap.size 43 v5 l) := ho5; clear ho5 hb5 hg5; obtain ⟨z0, z1, z2, z3⟩ := (HL3.out.later HB5.out).cells; have HB6 : Hid (Below wy.heap.size wy (w5.alloc (.cells #[.int .i64 p, .int .u64 (((lastL l).num + 1 : Nat) : Int), .string val, .bool gn] 43))) := HB5.out.trans (((Below.refl _ w5).alloc (Nat.le_refl _) _).mono HB5.out.size); have HO6 : Hid (VOwn (w5.alloc (.cells #[.int .i64 p, .int .u64 (((lastL l).num + 1 : Nat) : Int), .string val, .bool gn] 43)) wy.heap.size 43 v5 l) := HO5.out.later ((Below.refl _ _).alloc (Nat.le_refl _) _); have hg6 : (w5.alloc (.cells #[.int .i64 p, .int .u64 (((lastL l).num + 1 : Nat) : Int), .string val, .bool gn] 43)).heap[w5.heap.size]? = some (.cells #[.int .i64 p, .int .u64 (((lastL l).num + 1 : Nat) : Int), .string val, .bool gn] 43) := heap_alloc_new w5 _) | (at_builtin; refine wp_append_ver 22 43 Try.underlying22 Try.info_43 rfl _ _ rfl wy.heap.size _ l rfl HO6.out _ _ ⟨p, (lastL l).num + 1, val, gn⟩ rfl hg6 HOK.out (by omega) HB6.out.size ?_; intro v7 w7 ho7 hb7 hg7; have HB7 : Hid (Below wy.heap.size wy w7) := HB6.out.trans hb7; have hrf := ho7.rf; obtain ⟨xa, xk, xc, rfl, hx7, hx0⟩ := hrf; have HX7 : Hid (Rf w7 (.slice xa xk xc) (l ++ [⟨p, (lastL l).num + 1, val, gn⟩])) := ⟨xa, xk, xc, rfl, hx7, hx0⟩; clear ho7 hb7 hg7 hx7 hx0) | fail)
    refine (set_any gr L key xa xk xc _ w7 (HR3.out.later HB7.out) HX7.out hL).mono ?_
    rintro e w8 ⟨rfl, hr8, hg8⟩
    have HR8 : Hid (Rs w8 gr (setL L key (l ++ [⟨p, (lastL l).num + 1, val, gn⟩]))) := hr8
    have HG8 : Hid (w7.grownBy w8 (some gr)) := hg8
    clear hr8 hg8
    go_wp2
    go_ret
    exact ⟨rfl, HR8.out, ((grown_of_below HB3.out).but _).trans (((grown_of_below HB7.out).but _).trans HG8.out)⟩
  · obtain ⟨k, rfl⟩ : ∃ k, uk = k + 1 := ⟨uk - 1, by omega⟩
    obtain ⟨b, off, rfl, hc⟩ := (HV1.out.later HBA.out).at (by omega)
    obtain ⟨c0, c1, c2, c3⟩ := hc k (by omega)
    clear hc
    have f0 := HVA.out.free 0
    have f1 := HVA.out.free 1
    have f2 := HVA.out.free 2
    have f3 := HVA.out.free 3
    have y0 := HVA.out.cells
    have hwr : IntKind.i64.wrap (((k + 1 : Nat) : Int) - 1) = (k : Nat) := by rw [IntWalk.i64_in _ ⟨by omega, by omega⟩]; omega
    have HL3 : Hid (VarV (w1.alloc (.cells #[.int .i64 (nth l k).pos, .int .u64 ((nth l k).num : Nat), .string (nth l k).val, .bool (nth l k).gone] 43)) w1.heap.size 43 (lastL l)) := by rw [lastL, HV1.out.1, Nat.add_sub_cancel]; exact heap_alloc_new w1 _
    have HB2 : Hid (Below w1.heap.size w1 (w1.alloc (.cells #[.int .i64 (nth l k).pos, .int .u64 ((nth l k).num : Nat), .string (nth l k).val, .bool (nth l k).gone] 43))) := (Below.refl _ _).alloc (Nat.le_refl _) _
    have HB3 : Hid (Below w.heap.size w (w1.alloc (.cells #[.int .i64 (nth l k).pos, .int .u64 ((nth l k).num : Nat), .string (nth l k).val, .bool (nth l k).gone] 43))) := HB1.out.trans (HB2.out.mono HB1.out.size)
    have HV3 : Hid (VRow (w1.alloc (.cells #[.int .i64 (nth l k).pos, .int .u64 ((nth l k).num : Nat), .string (nth l k).val, .bool (nth l k).gone] 43)) (some ⟨b, off, none⟩) (k + 1) l) := HV1.out.later HB2.out
    clear HVA HBA HV1 HB1 HB2
    go_upto_region 5 with fail
    generalize w1.alloc (.cells #[.int .i64 (nth l k).pos, .int .u64 ((nth l k).num : Nat), .string (nth l k).val, .bool (nth l k).gone] 43) = w3 at *
    generalize w1.heap.size = pv at *
    obtain ⟨q0, q1, q2, q3⟩ := HL3.out.cells
    
    have hn1 : IntKind.u64.wrap (((lastL l).num : Int) + 1) = (((lastL l).num + 1 : Nat) : Int) := by rw [IntWalk.u64_in _ ⟨by omega, by omega⟩]; omega
    have h1 : ¬ p < 1 := by omega
    have h2 : ¬ p ≤ (lastL l).pos := by omega
    have HR3 : Hid (Rs w3 gr L) := HRS.out.later HB3.out
    go_wp2_with fail
    refine (ref_right_any key _ hs).mono ?_
    rw [hk]
    rintro e wx ⟨rfl, rfl⟩
    go_wp2_with fail
    refine (ref_may_any val gn _ hv).mono ?_
    rw [hmay]
    rintro e wy ⟨rfl, rfl⟩
    have HB4 : Hid (Below wy.heap.size wy (wy.alloc (.cells #[] 43))) := (Below.refl _ _).alloc (Nat.le_refl _) _
    have HO4 : Hid (VOwn (wy.alloc (.cells #[] 43)) wy.heap.size 43 (.slice (some ⟨wy.heap.size, 0, none⟩) 0 0) []) := ⟨⟨rfl, .inr ⟨_, _, _, rfl, Nat.le_refl _, heap_alloc_new wy _, by simp, by simp, by simp, by simp [cellsL]⟩⟩, by simp⟩
    have HV4 : Hid (VRow (wy.alloc (.cells #[] 43)) (some ⟨b, off, none⟩) (k + 1) l) := HV3.out.later HB4.out
    go_wp2_with (first | (at_builtin; refine wp_append_vcopy rfl _ _ rfl wy.heap.size _ l rfl HO4.out _ _ _ rfl HV4.out HV0.out (by omega) HB4.out.size ?_; intro v5 w5 ho5 hb5 hg5; have HB5 : Hid (Below wy.heap.size wy w5) := HB4.out.trans hb5; have HO5 : Hid (VOwn w5 wy.heap.size 43 v5 l) := ho5; clear ho5 hb5 hg5; obtain ⟨z0, z1, z2, z3⟩ := (HL3.out.later HB5.out).cells; have HB6 : Hid (Below wy.heap.size wy (w5.alloc (.cells #[.int .i64 p, .int .u64 (((lastL l).num + 1 : Nat) : Int), .string val, .bool gn] 43))) := HB5.out.trans (((Below.refl _ w5).alloc (Nat.le_refl _) _).mono HB5.out.size); have HO6 : Hid (VOwn (w5.alloc (.cells #[.int .i64 p, .int .u64 (((lastL l).num + 1 : Nat) : Int), .string val, .bool gn] 43)) wy.heap.size 43 v5 l) := HO5.out.later ((Below.refl _ _).alloc (Nat.le_refl _) _); have hg6 : (w5.alloc (.cells #[.int .i64 p, .int .u64 (((lastL l).num + 1 : Nat) : Int), .string val, .bool gn] 43)).heap[w5.heap.size]? = some (.cells #[.int .i64 p, .int .u64 (((lastL l).num + 1 : Nat) : Int), .string val, .bool gn] 43) := heap_alloc_new w5 _) | (at_builtin; refine wp_append_ver 22 43 Try.underlying22 Try.info_43 rfl _ _ rfl wy.heap.size _ l rfl HO6.out _ _ ⟨p, (lastL l).num + 1, val, gn⟩ rfl hg6 HOK.out (by omega) HB6.out.size ?_; intro v7 w7 ho7 hb7 hg7; have HB7 : Hid (Below wy.heap.size wy w7) := HB6.out.trans hb7; have hrf := ho7.rf; obtain ⟨xa, xk, xc, rfl, hx7, hx0⟩ := hrf; have HX7 : Hid (Rf w7 (.slice xa xk xc) (l ++ [⟨p, (lastL l).num + 1, val, gn⟩])) := ⟨xa, xk, xc, rfl, hx7, hx0⟩; clear ho7 hb7 hg7 hx7 hx0) | fail)
    refine (set_any gr L key xa xk xc _ w7 (HR3.out.later HB7.out) HX7.out hL).mono ?_
    rintro e w8 ⟨rfl, hr8, hg8⟩
    have HR8 : Hid (Rs w8 gr (setL L key (l ++ [⟨p, (lastL l).num + 1, val, gn⟩]))) := hr8
    have HG8 : Hid (w7.grownBy w8 (some gr)) := hg8
    clear hr8 hg8
    go_wp2
    go_ret
    exact ⟨rfl, HR8.out, ((grown_of_below HB3.out).but _).trans (((grown_of_below HB7.out).but _).trans HG8.out)⟩
end Go.Proofs.Ytmahigfamgbhfaa
