/- The document's own version at a number, and what is left without elder ones; versions as the program's. -/
import Derived.Test.YtmahigfamgbhfaaObK
import Derived.Deep.Cut
namespace Go.Proofs.Ytmahigfamgbhfaa
open Go.RowKit
set_option linter.unusedVariables false


set_option maxRecDepth 100000 in
theorem ref_read_any (a : Option Addr) (n cap : Nat) (m : Int) (l : List Ver) (w : World) (hr : VRow w a n l) (hri : Rises l) (hlen : n ≤ 1000000) :
    Calls Try.prog 25 #[.slice a n cap, .int .i64 m] w fun e w' => e = .returned (.tuple #[(readV l m).value, .bool (readB l m)]) ∧ Below w.heap.size w w' := by
  have HB : Hid (Below w.heap.size w (w.alloc (.cells #[.int .i64 0, .int .u64 0, .string ⟨#[]⟩, .bool false] 43))) := (Below.refl _ w).alloc (Nat.le_refl _) _
  have hvx : VarV (w.alloc (.cells #[.int .i64 0, .int .u64 0, .string ⟨#[]⟩, .bool false] 43)) w.heap.size 43 Ver.zero := heap_alloc_new w _
  have h1 := ref_undo_any a n cap m l _ (hr.later HB.out) hlen
  rw [filter_take hri m] at h1
  have hul := upTo_le l m
  rw [hr.1] at hul
  clear hr
  go_enter Try.func25, Try.ntmps25
  go_wp2_with fail
  refine h1.mono ?_
  clear h1
  rintro e w1 ⟨v1, rfl, ho1, hb1⟩
  obtain ⟨a1, cap1, rfl, hr1, -⟩ := ho1.slice
  have HB1 : Hid (Below w.heap.size w w1) := HB.out.trans (hb1.mono HB.out.size)
  have HV : Hid (VarV w1 w.heap.size 43 Ver.zero) := hvx.later hb1
  obtain ⟨z0, z1, z2, z3⟩ := HV.out.cells
  have f0 := HV.out.free 0
  have f1 := HV.out.free 1
  have f2 := HV.out.free 2
  have f3 := HV.out.free 3
  obtain ⟨s0, s1, s2, s3⟩ := HV.out.sets
  have hle : (l.take (upTo l m)).length = upTo l m := by rw [List.length_take]; exact Nat.min_eq_left (upTo_le l m)
  rw [hle] at hr1 ⊢
  have HLE : Hid ((l.take (upTo l m)).length = upTo l m) := hle
  clear HB hb1 hvx ho1 hle
  by_cases hk : upTo l m = 0
  · have HQ : Hid (readV l m = Ver.zero ∧ readB l m = false) := ⟨by simp [readV, hk], by simp [readB, hk]⟩
    rw [hk]
    clear hr1 hk hul HLE
    go_wp2
    refine bodyPost_ret (v := .tuple #[Ver.zero.value, .bool false]) (by simp [results, Try.results25, go_sem, s0, s1, s2, s3, Ver.zero]) rfl ?_
    refine ⟨?_, below_set4 HB1.out (by omega)⟩
    rw [HQ.out.1, HQ.out.2]
  · obtain ⟨k, hk1⟩ : ∃ k, upTo l m = k + 1 := ⟨upTo l m - 1, by omega⟩
    have HQ : Hid (readV l m = nth (l.take (upTo l m)) k ∧ readB l m = true) := ⟨by rw [readV, if_neg hk, nth_take _ _ _ (by omega), hk1]; rfl, by simp [readB, hk]⟩
    rw [hk1] at hul hk HQ hr1 ⊢
    obtain ⟨b, off, rfl, hcc⟩ := hr1.at (by omega)
    obtain ⟨d0, d1, d2, d3⟩ := hcc k (by omega)
    have e1 : ((k : Int) + 1 == 0) = false := by simp; omega
    clear hcc hr1 hk1 hk HLE
    generalize nth (l.take (k + 1)) k = v at *
    go_wp2
    refine bodyPost_ret (v := .tuple #[v.value, .bool true]) (by simp [results, Try.results25, go_sem, s0, s1, s2, s3]) rfl ?_
    refine ⟨?_, below_set4 HB1.out (by omega)⟩
    rw [HQ.out.1, HQ.out.2]


set_option maxRecDepth 100000 in
set_option maxHeartbeats 4000000 in
theorem ref_clean_any (a : Option Addr) (n cap : Nat) (m : Int) (l : List Ver) (w : World) (hr : VRow w a n l) (hri : Rises l) (hlen : n ≤ 1000000) :
    Calls Try.prog 27 #[.slice a n cap, .int .i64 m] w fun e w' => ∃ v, e = .returned v ∧ VOwn w' w.heap.size 43 v (cleanL l m) ∧ Below w.heap.size w w' := by
  have h1 := ref_read_any a n cap m l w hr hri hlen
  have HC : Hid (cleanL l m = l.filter (fun v => !readB l m || decide ((readV l m).pos ≤ v.pos))) := (clean_filter hri m).symm
  have HR : Hid (VRow w a n l) := hr
  clear hr
  go_enter Try.func27, Try.ntmps27
  go_wp2_with fail
  refine h1.mono ?_
  clear h1
  rintro e w1 ⟨rfl, hb1⟩
  generalize readV l m = r at *
  generalize readB l m = q at *
  have hv2 : VarV (w1.alloc (.cells #[.int .i64 (r).pos, .int .u64 ((r).num : Nat), .string (r).val, .bool (r).gone] 43)) w1.heap.size 43 r := heap_alloc_new w1 _
  have HB2 : Hid (Below w.heap.size w (w1.alloc (.cells #[.int .i64 (r).pos, .int .u64 ((r).num : Nat), .string (r).val, .bool (r).gone] 43))) := hb1.alloc hb1.size _
  have hsz := hb1.size
  clear hb1
  go_upto_region 2 with fail
  generalize w1.alloc (.cells #[.int .i64 (r).pos, .int .u64 ((r).num : Nat), .string (r).val, .bool (r).gone] 43) = w2 at *
  generalize w1.heap.size = pv at *
  have HV2 : Hid (VarV w2 pv 43 r) := hv2
  clear hv2
  go_wp2
  go_loopw [7, 18] (fun s7 s18 wr => ∃ (k : Nat) (v : Value), v = s7 ∧ s18 = .int .i64 (k : Nat) ∧ k ≤ n ∧ Hid (VOwn wr w2.heap.size 43 v ((l.take k).filter (fun x => !q || decide (r.pos ≤ x.pos)))) ∧ Hid (Below w2.heap.size w2 wr)) (fun _ s18 _ => n - (intOf s18).toNat)
  case atStart => exact ⟨0, _, rfl, rfl, by omega, VOwn.nil _ _ _, Below.refl _ _⟩
  case round =>
    obtain ⟨k, v, rfl, rfl, hk, HO, HB⟩ := hrel
    by_cases hlt : k < n
    · obtain ⟨b, off, rfl, hc⟩ := (HR.out.later (HB2.out.trans (HB.out.mono HB2.out.size))).at (by omega)
      obtain ⟨c0, c1, c2, c3⟩ := hc k hlt
      clear hc
      have HX : Hid (Below w2.heap.size w2 (wr.alloc (.cells #[.int .i64 (nth l k).pos, .int .u64 ((nth l k).num : Nat), .string (nth l k).val, .bool (nth l k).gone] 43))) := HB.out.alloc HB.out.size _
      have HF := filter_snoc (fun x => !q || decide (r.pos ≤ x.pos)) l k (by rw [HR.out.1]; exact hlt)
      have hok := HR.out.okn k
      have hshort := filter_short (fun x => !q || decide (r.pos ≤ x.pos)) l k
      rw [HR.out.1] at hshort
      obtain ⟨r0, r1, r2, r3⟩ := (HV2.out.later HX.out).cells
      have hgo : (q = true → (nth l k).pos < r.pos → (!q || decide (r.pos ≤ (nth l k).pos)) = false) ∧ ((q = false ∨ r.pos ≤ (nth l k).pos) → (!q || decide (r.pos ≤ (nth l k).pos)) = true) := by
        refine ⟨fun h1 h2 => by simp [h1]; omega, fun h => ?_⟩
        rcases h with h | h <;> simp [h]
      have body : ∀ _ : True, True := fun _ => trivial
      generalize nth l k = u at *
      by_cases hp : q = false ∨ r.pos ≤ u.pos
      · rw [hgo.2 hp, if_pos rfl] at HF
        have HF2 : Hid ((l.take (k + 1)).filter (fun x => !q || decide (r.pos ≤ x.pos)) = (l.take k).filter (fun x => !q || decide (r.pos ≤ x.pos)) ++ [u]) := HF
        clear HF hgo body
        have HO2 : Hid (VOwn ((wr.alloc (.cells #[.int .i64 (u).pos, .int .u64 ((u).num : Nat), .string (u).val, .bool (u).gone] 43)).alloc (.cells #[.int .i64 (u).pos, .int .u64 ((u).num : Nat), .string (u).val, .bool (u).gone] 43)) w2.heap.size 43 v ((l.take k).filter (fun x => !q || decide (r.pos ≤ x.pos)))) := HO.out.later (((Below.refl _ _).alloc (Nat.le_refl _) _).alloc (by simp) _)
        have HX2 : Hid (Below w2.heap.size w2 ((wr.alloc (.cells #[.int .i64 (u).pos, .int .u64 ((u).num : Nat), .string (u).val, .bool (u).gone] 43)).alloc (.cells #[.int .i64 (u).pos, .int .u64 ((u).num : Nat), .string (u).val, .bool (u).gone] 43))) := HX.out.alloc HX.out.size _
        have hg : ((wr.alloc (.cells #[.int .i64 (u).pos, .int .u64 ((u).num : Nat), .string (u).val, .bool (u).gone] 43)).alloc (.cells #[.int .i64 (u).pos, .int .u64 ((u).num : Nat), .string (u).val, .bool (u).gone] 43)).heap[wr.heap.size + 1]? = some (.cells #[.int .i64 (u).pos, .int .u64 ((u).num : Nat), .string (u).val, .bool (u).gone] 43) := by
          have := heap_alloc_new (wr.alloc (.cells #[.int .i64 (u).pos, .int .u64 ((u).num : Nat), .string (u).val, .bool (u).gone] 43)) (.cells #[.int .i64 (u).pos, .int .u64 ((u).num : Nat), .string (u).val, .bool (u).gone] 43)
          rwa [World.size_alloc] at this
        cases q
        · go_wp2_with (at_builtin; refine wp_append_ver 22 43 Try.underlying22 Try.info_43 rfl _ _ rfl w2.heap.size _ _ rfl HO2.out _ _ u rfl hg hok (by omega) HX2.out.size ?_; intro v2 w4 ho2 hb2 hg2)
          go_roundw
          case rel => exact ⟨k + 1, v2, rfl, by go_num, by omega, by unfold Hid; rw [HF2.out]; exact ho2, HX2.out.trans hb2⟩
          case measure => simp [intOf]; omega
        · have hp2 : r.pos ≤ u.pos := by rcases hp with h | h; (cases h); exact h
          clear hp
          go_wp2_with (at_builtin; refine wp_append_ver 22 43 Try.underlying22 Try.info_43 rfl _ _ rfl w2.heap.size _ _ rfl HO2.out _ _ u rfl hg hok (by omega) HX2.out.size ?_; intro v2 w4 ho2 hb2 hg2)
          go_roundw
          case rel => exact ⟨k + 1, v2, rfl, by go_num, by omega, by unfold Hid; rw [HF2.out]; exact ho2, HX2.out.trans hb2⟩
          case measure => simp [intOf]; omega
      · have hq : q = true := by cases q; (exact absurd (.inl rfl) hp); rfl
        have hp2 : ¬ r.pos ≤ u.pos := fun h => hp (.inr h)
        rw [hgo.1 hq (by omega), if_neg (by simp)] at HF
        have HF2 : Hid ((l.take (k + 1)).filter (fun x => !q || decide (r.pos ≤ x.pos)) = (l.take k).filter (fun x => !q || decide (r.pos ≤ x.pos))) := HF
        subst hq
        clear HF hgo body hp
        have HO2 : Hid (VOwn (wr.alloc (.cells #[.int .i64 (u).pos, .int .u64 ((u).num : Nat), .string (u).val, .bool (u).gone] 43)) w2.heap.size 43 v ((l.take k).filter (fun x => !true || decide (r.pos ≤ x.pos)))) := HO.out.later ((Below.refl _ _).alloc (Nat.le_refl _) _)
        go_wp2
        go_roundw
        case rel => exact ⟨k + 1, v, rfl, by go_num, by omega, by unfold Hid; rw [HF2.out]; exact HO2.out, HX.out⟩
        case measure => simp [intOf]; omega
    · have HE : Hid (VOwn wr w.heap.size 43 v (cleanL l m)) := by
        have h1 := HO.out
        rw [List.take_of_length_le (by rw [HR.out.1]; omega), ← HC.out] at h1
        exact h1.mono HB2.out.size
      go_wp2
      go_ret
      exact ⟨v, rfl, HE.out, HB2.out.trans (HB.out.mono HB2.out.size)⟩

end Go.Proofs.Ytmahigfamgbhfaa
