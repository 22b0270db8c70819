/- A transaction's part in a shard. -/
import Derived.Test.YteokhedljfakkaaDoorEnT
import Derived.Test.YteokhedljfakkaaDoorEnM
namespace Go.Proofs.YteokhedljfakkaaDoor
open Go Go.RowKit
set_option linter.unusedVariables false
set_option linter.unusedSimpArgs false

theorem partR_next {n s : Int} {l : List Rdv} {k : Nat} {x : Rdv} (h : l[k]? = some x) : partR n s (l.take (k + 1)) = partR n s (l.take k) ++ (if ((shard x.key n : Nat) : Int) == s then [x] else []) := by
  obtain ⟨hk, rfl⟩ := List.getElem?_eq_some_iff.1 h
  unfold partR
  rw [List.take_succ_eq_append_getElem hk, List.filter_append]
  simp only [List.filter_cons, List.filter_nil]
theorem partW_next {n s : Int} {l : List Wrv} {k : Nat} {x : Wrv} (h : l[k]? = some x) : partW n s (l.take (k + 1)) = partW n s (l.take k) ++ (if ((shard x.key n : Nat) : Int) == s then [x] else []) := by
  obtain ⟨hk, rfl⟩ := List.getElem?_eq_some_iff.1 h
  unfold partW
  rw [List.take_succ_eq_append_getElem hk, List.filter_append]
  simp only [List.filter_cons, List.filter_nil]
theorem partR_le (n s : Int) (l : List Rdv) : (partR n s l).length ≤ l.length := List.length_filter_le _ _
theorem partW_le (n s : Int) (l : List Wrv) : (partW n s l).length ≤ l.length := List.length_filter_le _ _

theorem owns_tag2 {w : World} {base : Nat} {e : TypeId} {n : Nat} {v : Value} {m : Nat} {xs : List Value} (h : w.ownsRow base e n v m xs) : ∀ k, v.ownBlock = some k → tagOf w k = some e := owns_tag h
set_option maxRecDepth 100000 in
set_option maxHeartbeats 8000000 in
theorem part_any (id : Id) (plain : Bool) (b1 : Nat) (a1 : Option Addr) (n1 c1 : Nat) (a2 : Option Addr) (n2 c2 : Nat) (l1 : List Rdv) (l2 : List Wrv) (s n : Int) (w : World) (h : Tx w b1 a1 n1 c1 a2 n2 c2 l1 l2) (hl1 : l1.length ≤ 10) (hl2 : l2.length ≤ 10) :
    Calls Tryd.prog 26 #[txnv id plain (.slice a1 n1 c1) (.slice a2 n2 c2), .int .i64 s, .int .i64 n] w fun e w' => (∃ u1 u2, e = .returned (.tuple #[u1, u2]) ∧ w'.ownsRow w.heap.size 79 2 u1 (partR n s l1).length ((partR n s l1).flatMap Rdv.cells) ∧ w'.ownsRow w.heap.size 80 3 u2 (partW n s l2).length ((partW n s l2).flatMap Wrv.cells)) ∧ Below w.heap.size w w' := by
  obtain ⟨i1, i2⟩ := id
  obtain ⟨aa, cc, e1, hR⟩ := owns_rds h.r ⟨⟨#[]⟩, 0⟩
  simp only [Value.slice.injEq] at e1
  obtain ⟨rfl, rfl, rfl⟩ := e1
  obtain ⟨aa, cc, e1, hW⟩ := owns_wrs h.w ⟨⟨#[]⟩, ⟨#[]⟩, false⟩
  simp only [Value.slice.injEq] at e1
  obtain ⟨rfl, rfl, rfl⟩ := e1
  have hf := h.f
  clear h
  have hb0 : Below w.heap.size w (w.alloc (.cells #[.int .i64 i1, .int .u64 i2, .bool plain, .slice a1 l1.length c1, .slice a2 l2.length c2] 35)) := (Below.refl _ _).alloc (Nat.le_refl _) _
  have hn0 := heap_alloc_new w (.cells #[.int .i64 i1, .int .u64 i2, .bool plain, .slice a1 l1.length c1, .slice a2 l2.length c2] 35)
  go_enter Tryd.func26, Tryd.ntmps26
  go_upto_region 1 with fail
  generalize w.alloc (.cells #[.int .i64 i1, .int .u64 i2, .bool plain, .slice a1 l1.length c1, .slice a2 l2.length c2] 35) = w0 at *
  have HR0 : Hid (Rds w0 a1 l1.length (fun i => l1[i]?.getD ⟨⟨#[]⟩, 0⟩)) := hR.later hb0
  have HW0 : Hid (Wrs w0 a2 l2.length (fun i => l2[i]?.getD ⟨⟨#[]⟩, ⟨#[]⟩, false⟩)) := hW.later hb0
  have HB0 : Hid (Below w.heap.size w w0) := hb0
  have HN0 : Hid (w0.heap[w.heap.size]? = some (.cells #[.int .i64 i1, .int .u64 i2, .bool plain, .slice a1 l1.length c1, .slice a2 l2.length c2] 35)) := hn0
  have x3 : w0.cell? ⟨w.heap.size, 3, none⟩ = some (.slice a1 l1.length c1) := cell_of_heap hn0 rfl
  clear hb0 hR hW hn0
  go_wp2
  clear x3
  go_loopw [8, 17] (fun v t wr => ∃ (k : Nat) (qa : Option Addr) (qn qc : Nat), t = .int .i64 (k : Nat) ∧ k ≤ l1.length ∧ v = .slice qa qn qc ∧ Hid (wr.ownsRow w0.heap.size 79 2 (.slice qa qn qc) (partR n s (l1.take k)).length ((partR n s (l1.take k)).flatMap Rdv.cells)) ∧ Hid (Below w0.heap.size w0 wr)) (fun _ t _ => l1.length - (intOf t).toNat)
  case atStart => exact ⟨0, _, _, _, rfl, by omega, rfl, World.ownsRow_nil _ _ _ _, Below.refl _ _⟩
  case round =>
    obtain ⟨k, qa, qn, qc, rfl, hk, rfl, HO, HB⟩ := hrel
    by_cases hlt : k < l1.length
    · obtain ⟨b, off, rfl, hc⟩ := (HR0.out.later HB.out).at (by omega)
      obtain ⟨d0, d1⟩ := hc k hlt
      clear hc
      have hx : l1[k]? = some (l1[k]?.getD ⟨⟨#[]⟩, 0⟩) := by rw [List.getElem?_eq_getElem hlt]; rfl
      generalize l1[k]?.getD ⟨⟨#[]⟩, 0⟩ = x at d0 d1 hx
      have hxs : x.key.size ≤ maxLen := hf.r _ (List.mem_of_getElem? hx)
      have HNX : Hid (partR n s (l1.take (k + 1)) = partR n s (l1.take k) ++ (if ((shard x.key n : Nat) : Int) == s then [x] else [])) := partR_next hx
      have h2 : (l1.take k).length ≤ l1.length := by rw [List.length_take]; omega
      have hll : (partR n s (l1.take k)).length ≤ 10 := Nat.le_trans (partR_le n s (l1.take k)) (Nat.le_trans h2 (by omega))
      clear h2
      obtain ⟨xk, xn⟩ := x
      simp only at d0 d1 hxs
      clear hx
      have hcall := kshard_any xk n (wr.alloc (.cells #[.string xk, .int .u64 xn] 79)) hxs
      obtain ⟨sh, hsh⟩ : ∃ sh : Nat, sh = shard xk n := ⟨_, rfl⟩
      simp only [← hsh] at hcall HNX
      clear hsh
      by_cases hs : (sh : Int) = s
      · have hse : ((sh : Int) == s) = true := by simp [hs]
        have HEQ : Hid (partR n s (l1.take (k + 1)) = partR n s (l1.take k) ++ [(⟨xk, xn⟩ : Rdv)]) := by have := HNX.out; rw [hse] at this; exact this
        clear HNX hs
        have hb3 : Below wr.heap.size wr ((wr.alloc (.cells #[.string xk, .int .u64 xn] 79)).alloc (.cells #[.string xk, .int .u64 xn] 79)) := ((Below.refl _ _).alloc (Nat.le_refl _) _).alloc (by simp) _
        have hg3 := heap_alloc_new (wr.alloc (.cells #[.string xk, .int .u64 xn] 79)) (.cells #[.string xk, .int .u64 xn] 79)
        rw [World.size_alloc] at hg3
        have hc3 := news_one Rdv.cells ⟨xk, xn⟩ hg3 rfl
        have t2 := owns_later HO.out hb3
        have HB3 : Hid (Below w0.heap.size w0 ((wr.alloc (.cells #[.string xk, .int .u64 xn] 79)).alloc (.cells #[.string xk, .int .u64 xn] 79))) := HB.out.trans (hb3.mono HB.out.size)
        
        clear hg3
        go_wp2_with fail
        refine hcall.mono ?_
        clear hcall
        rintro e w' ⟨rfl, hw⟩
        subst hw
        generalize partR n s (l1.take k) = LL at *
        go_wp2_with (at_builtin; refine wp_append_els Rdv.cells 2 24 32 79 _ Tryd.underlying32 Tryd.info_79 rfl (by decide) (fun _ => rfl) (by decide) rfl _ _ rfl w0.heap.size _ LL rfl t2 _ 1 1 [(⟨xk, xn⟩ : Rdv)] rfl rfl hc3 (Rdv.one _) (by decide) (by omega) HB3.out.size ?_; intro v2 w2 ho2 hg2 hv2; obtain ⟨qa2, qn2, qc2, rfl⟩ := owns_slice ho2; have HF : Hid (w2.ownsRow w0.heap.size 79 2 (.slice qa2 qn2 qc2) (LL ++ [(⟨xk, xn⟩ : Rdv)]).length ((LL ++ [(⟨xk, xn⟩ : Rdv)]).flatMap Rdv.cells) ∧ Below w0.heap.size w0 w2) := ⟨ho2, HB3.out.grown hg2 HB3.out.size (fun j hj => (World.ownsRow.lt t2 j hj).1)⟩; clear ho2 hg2 hv2)
        go_roundw
        case rel => exact ⟨k + 1, _, _, _, by go_num, by omega, rfl, by rw [HEQ.out]; exact HF.out.1, HF.out.2⟩
        case measure => simp [intOf]; omega
      · have hse : ((sh : Int) == s) = false := by simp [hs]
        have HEQ : Hid (partR n s (l1.take (k + 1)) = partR n s (l1.take k)) := by have := HNX.out; rw [hse] at this; rw [Hid]; simpa using this
        clear HNX hs
        have hbx : Below wr.heap.size wr (wr.alloc (.cells #[.string xk, .int .u64 xn] 79)) := (Below.refl _ _).alloc (Nat.le_refl _) _
        have HF : Hid ((wr.alloc (.cells #[.string xk, .int .u64 xn] 79)).ownsRow w0.heap.size 79 2 (.slice qa qn qc) (partR n s (l1.take k)).length ((partR n s (l1.take k)).flatMap Rdv.cells) ∧ Below w0.heap.size w0 (wr.alloc (.cells #[.string xk, .int .u64 xn] 79))) := ⟨owns_later HO.out hbx, HB.out.trans (hbx.mono HB.out.size)⟩
        clear hbx
        go_wp2_with fail
        refine hcall.mono ?_
        clear hcall
        rintro e w' ⟨rfl, hw⟩
        subst hw
        go_wp2
        go_roundw
        case rel => exact ⟨k + 1, _, _, _, by go_num, by omega, rfl, by rw [HEQ.out]; exact HF.out.1, HF.out.2⟩
        case measure => simp [intOf]; omega
    · have hkk : l1.take k = l1 := List.take_of_length_le (by omega)
      rw [hkk] at HO
      have x4 : wr.cell? ⟨w.heap.size, 4, none⟩ = some (.slice a2 l2.length c2) := cell_of_heap (keepc HB.out HN0.out) rfl
      generalize qa = va at *
      generalize qn = vn at *
      generalize qc = vc at *
      have HV1 : Hid (wr.ownsRow w0.heap.size 79 2 (.slice va vn vc) (partR n s l1).length ((partR n s l1).flatMap Rdv.cells)) := HO
      have HB1 : Hid (Below w0.heap.size w0 wr) := HB
      clear hkk HO HB
      go_wp2
      clear x4
      generalize wr = wA at *
      go_loopw [11, 35] (fun v t wr => ∃ (k : Nat) (qa : Option Addr) (qn qc : Nat), t = .int .i64 (k : Nat) ∧ k ≤ l2.length ∧ v = .slice qa qn qc ∧ Hid (wr.ownsRow w0.heap.size 80 3 (.slice qa qn qc) (partW n s (l2.take k)).length ((partW n s (l2.take k)).flatMap Wrv.cells)) ∧ Hid (Below w0.heap.size w0 wr) ∧ Hid (wr.ownsRow w0.heap.size 79 2 (.slice va vn vc) (partR n s l1).length ((partR n s l1).flatMap Rdv.cells))) (fun _ t _ => l2.length - (intOf t).toNat)
      case atStart => exact ⟨0, _, _, _, rfl, by omega, rfl, World.ownsRow_nil _ _ _ _, HB1.out, HV1.out⟩
      case round =>
        obtain ⟨k, qa, qn, qc, rfl, hk, rfl, HO, HB, HV⟩ := hrel
        by_cases hlt : k < l2.length
        · obtain ⟨b, off, rfl, hc⟩ := (HW0.out.later HB.out).at (by omega)
          obtain ⟨d0, d1, d2⟩ := hc k hlt
          clear hc
          have hx : l2[k]? = some (l2[k]?.getD ⟨⟨#[]⟩, ⟨#[]⟩, false⟩) := by rw [List.getElem?_eq_getElem hlt]; rfl
          generalize l2[k]?.getD ⟨⟨#[]⟩, ⟨#[]⟩, false⟩ = x at d0 d1 d2 hx
          have hxs : x.key.size ≤ maxLen := hf.k _ (List.mem_of_getElem? hx)
          have HNX : Hid (partW n s (l2.take (k + 1)) = partW n s (l2.take k) ++ (if ((shard x.key n : Nat) : Int) == s then [x] else [])) := partW_next hx
          have h2 : (l2.take k).length ≤ l2.length := by rw [List.length_take]; omega
          have hll : (partW n s (l2.take k)).length ≤ 10 := Nat.le_trans (partW_le n s (l2.take k)) (Nat.le_trans h2 (by omega))
          clear h2
          obtain ⟨xk, xv, xg⟩ := x
          simp only at d0 d1 d2 hxs
          clear hx
          have hcall := kshard_any xk n (wr.alloc (.cells #[.string xk, .string xv, .bool xg] 80)) hxs
          obtain ⟨sh, hsh⟩ : ∃ sh : Nat, sh = shard xk n := ⟨_, rfl⟩
          simp only [← hsh] at hcall HNX
          clear hsh
          by_cases hs : (sh : Int) = s
          · have hse : ((sh : Int) == s) = true := by simp [hs]
            have HEQ : Hid (partW n s (l2.take (k + 1)) = partW n s (l2.take k) ++ [(⟨xk, xv, xg⟩ : Wrv)]) := by have := HNX.out; rw [hse] at this; exact this
            clear HNX hs
            have hb3 : Below wr.heap.size wr ((wr.alloc (.cells #[.string xk, .string xv, .bool xg] 80)).alloc (.cells #[.string xk, .string xv, .bool xg] 80)) := ((Below.refl _ _).alloc (Nat.le_refl _) _).alloc (by simp) _
            have hg3 := heap_alloc_new (wr.alloc (.cells #[.string xk, .string xv, .bool xg] 80)) (.cells #[.string xk, .string xv, .bool xg] 80)
            rw [World.size_alloc] at hg3
            have hc3 := news_one Wrv.cells ⟨xk, xv, xg⟩ hg3 rfl
            have t2 := owns_later HO.out hb3
            have HB3 : Hid (Below w0.heap.size w0 ((wr.alloc (.cells #[.string xk, .string xv, .bool xg] 80)).alloc (.cells #[.string xk, .string xv, .bool xg] 80))) := HB.out.trans (hb3.mono HB.out.size)
            have HV3 := owns_later HV.out hb3
            clear hg3
            go_wp2_with fail
            refine hcall.mono ?_
            clear hcall
            rintro e w' ⟨rfl, hw⟩
            subst hw
            generalize partW n s (l2.take k) = LL at *
            go_wp2_with (at_builtin; refine wp_append_els Wrv.cells 3 40 33 80 _ Tryd.underlying33 Tryd.info_80 rfl (by decide) (fun _ => rfl) (by decide) rfl _ _ rfl w0.heap.size _ LL rfl t2 _ 1 1 [(⟨xk, xv, xg⟩ : Wrv)] rfl rfl hc3 (Wrv.one _) (by decide) (by omega) HB3.out.size ?_; intro v2 w2 ho2 hg2 hv2; obtain ⟨qa2, qn2, qc2, rfl⟩ := owns_slice ho2; have HF : Hid (w2.ownsRow w0.heap.size 80 3 (.slice qa2 qn2 qc2) (LL ++ [(⟨xk, xv, xg⟩ : Wrv)]).length ((LL ++ [(⟨xk, xv, xg⟩ : Wrv)]).flatMap Wrv.cells) ∧ Below w0.heap.size w0 w2 ∧ w2.ownsRow w0.heap.size 79 2 (.slice va vn vc) (partR n s l1).length ((partR n s l1).flatMap Rdv.cells)) := ⟨ho2, HB3.out.grown hg2 HB3.out.size (fun j hj => (World.ownsRow.lt t2 j hj).1), (Fr.grown (T := [80]) hg2 (fun j hj => ⟨(World.ownsRow.lt t2 j hj).1, 80, by simp, owns_tag2 t2 j hj⟩)).owns HV3 (by decide)⟩; clear ho2 hg2 hv2)
            go_roundw
            case rel => exact ⟨k + 1, _, _, _, by go_num, by omega, rfl, by rw [HEQ.out]; exact HF.out.1, HF.out.2.1, HF.out.2.2⟩
            case measure => simp [intOf]; omega
          · have hse : ((sh : Int) == s) = false := by simp [hs]
            have HEQ : Hid (partW n s (l2.take (k + 1)) = partW n s (l2.take k)) := by have := HNX.out; rw [hse] at this; rw [Hid]; simpa using this
            clear HNX hs
            have hbx : Below wr.heap.size wr (wr.alloc (.cells #[.string xk, .string xv, .bool xg] 80)) := (Below.refl _ _).alloc (Nat.le_refl _) _
            have HF : Hid ((wr.alloc (.cells #[.string xk, .string xv, .bool xg] 80)).ownsRow w0.heap.size 80 3 (.slice qa qn qc) (partW n s (l2.take k)).length ((partW n s (l2.take k)).flatMap Wrv.cells) ∧ Below w0.heap.size w0 (wr.alloc (.cells #[.string xk, .string xv, .bool xg] 80)) ∧ (wr.alloc (.cells #[.string xk, .string xv, .bool xg] 80)).ownsRow w0.heap.size 79 2 (.slice va vn vc) (partR n s l1).length ((partR n s l1).flatMap Rdv.cells)) := ⟨owns_later HO.out hbx, HB.out.trans (hbx.mono HB.out.size), owns_later HV.out hbx⟩
            clear hbx
            go_wp2_with fail
            refine hcall.mono ?_
            clear hcall
            rintro e w' ⟨rfl, hw⟩
            subst hw
            go_wp2
            go_roundw
            case rel => exact ⟨k + 1, _, _, _, by go_num, by omega, rfl, by rw [HEQ.out]; exact HF.out.1, HF.out.2.1, HF.out.2.2⟩
            case measure => simp [intOf]; omega
        · have hkk : l2.take k = l2 := List.take_of_length_le (by omega)
          rw [hkk] at HO
          clear hkk HV1 HB1
          go_wp2
          refine bodyPost_ret (v := .tuple #[.slice va vn vc, .slice qa qn qc]) (by simp [results, Tryd.results26, go_sem]) rfl ?_
          exact ⟨⟨_, _, rfl, owns_mono HV.out HB0.out.size, owns_mono HO.out HB0.out.size⟩, HB0.out.trans (HB.out.mono HB0.out.size)⟩
end Go.Proofs.YteokhedljfakkaaDoor
