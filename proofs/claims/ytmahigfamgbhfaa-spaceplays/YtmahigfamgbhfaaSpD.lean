/- Which keys of a space are dirty: gone over in any order, then sorted. -/
import Derived.Test.YtmahigfamgbhfaaSpC
import Derived.Test.YtmahigfamgbhfaaVec
import Derived.Maps.RangeWalk
import Derived.Sort.OwnSorted
namespace Go.Proofs.Ytmahigfamgbhfaa
open Go.RowKit Go.Maps Go.Sort Go.Shelf
set_option linter.unusedVariables false

/-- is a key's object dirty? -/
def dirtyAt (F : ByteArray → List Ver) (m : Int) (b : List UInt8) : Bool := decide (upTo (F ⟨b.toArray⟩) m < (F ⟨b.toArray⟩).length)
theorem dirtyAt_of (F : ByteArray → List Ver) (m : Int) (s : ByteArray) : dirtyAt F m s.data.toList = decide (upTo (F s) m < (F s).length) := by
  have e : (⟨s.data.toList.toArray⟩ : ByteArray) = s := by cases s; simp
  simp only [dirtyAt, e]

theorem sort_own (base : Nat) (v : Value) (ss : List (List UInt8)) (w : World) (h : OwnV w base 9 v (ss.map encStr)) (hs : ss.length ≤ 1000000) :
    Calls Try.prog 55 #[v] w fun e w' => e = .returned (.tuple #[]) ∧ w'.ownsRow base 9 1 v ss.length ((ss.mergeSort (fun x y => decide (x ≤ y))).map encStr) ∧ w.grownBy w' v.ownBlock := by
  have h0 : w.ownsRow base 9 1 v ss.length (ss.map encStr) := by simpa [OwnV] using h
  rcases h0.2 with ⟨rfl, hz⟩ | ⟨gb, cap, cur, rfl, hbase, hgb, r1, r2, r3, r4⟩
  · have hss : ss = [] := List.eq_nil_of_length_eq_zero hz
    subst hss
    refine (sort_none none 0 w).mono ?_
    rintro e w' ⟨rfl, rfl⟩
    exact ⟨rfl, by simpa using h0, ⟨rfl, rfl, rfl, Nat.le_refl _, fun _ _ _ => rfl⟩⟩
  · have hH : Holds encStr w gb 0 ss.toArray := holds_of_block hgb (by simpa using r4)
    have hgl : gb < w.heap.size := (Array.getElem?_eq_some_iff.1 hgb).1
    refine (show Calls Try.prog 55 _ w _ from AnyM.slices_Sort_string Try.sort55 gb 0 cap ss w hH hgl (by omega)).mono ?_
    rintro e w' ⟨rfl, nn, os, rfl⟩
    exact ⟨rfl, ownsRow_sorted (by simp) hbase hgb r1 r2 r3, grownBy_sorted _⟩
theorem ranges_of {w w' : World} {b r n : Nat} {D : DataW Value} {left : Lit → Bool} {cnt : Nat} (h : w.ranges Try.prog 9 Rv b r n D left cnt) (hb : w'.heap[b]? = w.heap[b]?) (hr : w'.heap[r]? = w.heap[r]?) : w'.ranges Try.prog 9 Rv b r n D left cnt := by
  obtain ⟨es, clock, since, seen, c0, h1, h2, h3, h4, h5, h6⟩ := h
  exact ⟨es, clock, since, seen, c0, hb.trans h1, h2, h3, h4, hr.trans h5, h6⟩
theorem ranges_has {w : World} {b r n : Nat} {D : DataW Value} {left : Lit → Bool} {cnt : Nat} (h : w.ranges Try.prog 9 Rv b r n D left cnt) {k : List UInt8} (hl : left (.string k) = true) : has D (.string k) = true := by
  obtain ⟨es, clock, since, seen, c0, h1, h2, h3, rfl, h5, h6, h7, h8, h9, h10⟩ := h
  obtain ⟨x, hx, hk⟩ := h9 _ hl
  rw [has_eq, List.any_eq_true]
  exact ⟨_, mem_sorted.2 (List.mem_map.2 ⟨x, hx, rfl⟩), by rw [hk]; simp [Lit.sameKey]⟩
theorem encStr_of (s : ByteArray) : encStr s.data.toList = .string s := by
  cases s
  simp [encStr]

set_option maxRecDepth 100000 in
set_option maxHeartbeats 4000000 in
theorem sdirty_any (g bm n : Nat) (D : DataW Value) (F : ByteArray → List Ver) (m : Int) (w : World) (h : Sp w g bm n D F) (hn : n ≤ 1000000) :
    Calls Try.prog 34 #[.pointer (some ⟨g, 0, none⟩), .int .i64 m] w fun e w' => ∃ (v : Value) (ks : List (List UInt8)), e = .returned v ∧ w'.ownsRow w.heap.size 9 1 v ks.length ((ks.mergeSort (fun x y => decide (x ≤ y))).map encStr) ∧ ks.Nodup ∧ (∀ b, b ∈ ks ↔ has D (.string b) = true ∧ dirtyAt F m b = true) ∧ Below w.heap.size w w' := by
  have c0 := h.cell
  have HSP : Hid (Sp w g bm n D F) := h
  have hown := h.map
  have HBM : Hid (bm < w.heap.size) := h.map.lt
  clear h
  go_enter Try.func34, Try.ntmps34
  go_wp2_with fail
  refine (all_any g bm w c0).mono ?_
  rintro e w1 ⟨rfl, hw⟩
  subst w1
  clear c0
  go_wp2_with (at_range; refine wpList_range_own _ rfl _ 83 rfl 9 25 law9 Try.underlying83 Rv bm n D rfl hown ?_; intro w0 hrg0 hg0 hs0)
  have HB0 : Hid (Below w.heap.size w w0) := (Below.refl _ _).grown hg0 (Nat.le_refl _) (by simp)
  have HS0 : Hid (w0.heap.size = w.heap.size + 1) := hs0
  clear hg0 hs0 hown
  go_frame
  go_loopw [5] (fun s5 wr => ∃ (v : Value) (ks : List (List UInt8)) (left : Lit → Bool) (cnt : Nat), v = s5 ∧ wr.ranges Try.prog 9 Rv bm w.heap.size n D left cnt ∧ Hid (OwnV wr (w.heap.size + 1) 9 v (ks.map encStr)) ∧ Hid (ks.Nodup) ∧ Hid (∀ b, b ∈ ks ↔ has D (.string b) = true ∧ left (.string b) = false ∧ dirtyAt F m b = true) ∧ Hid (Below w.heap.size w wr) ∧ Hid (w.heap.size + 1 ≤ wr.heap.size) ∧ Hid (ks.length + cnt ≤ n))
    (fun _ wr => wr.rangeLeft bm w.heap.size)
  case atStart =>
    refine ⟨_, [], _, _, rfl, hrg0, OwnV.nil _ _ _, List.nodup_nil, fun b => ?_, HB0, by rw [Hid, HS0.out]; omega, by simp [Hid]; exact hrg0.owns.size_le⟩
    constructor
    · intro hb; simp at hb
    · rintro ⟨h1, h2, _⟩; rw [h1] at h2; cases h2
  case round =>
    obtain ⟨v, ks, left, cnt, rfl, hrg, HO, HND, HM, HB, HZ, HL⟩ := hrel
    go_wp2_with (at_next; refine wpList_next_ranges _ rfl _ rfl 9 law9 Rv (fun s : ByteArray => Value.string s) (fun v : Value => v) (fun key kl hk => by obtain ⟨s, rfl, _⟩ := WideMaps.string_of_keyOf Try.underlying9 hk; exact ⟨s, rfl⟩) (fun v y _ => ⟨v, rfl⟩) bm w.heap.size n D left cnt rfl hrg ?_ ?_)
    · intro _ hl0
      have h5 := sort_own _ v ks wr HO.out (by have := HL.out; omega)
      obtain ⟨a5, n5, k5, rfl⟩ : ∃ a n c, v = .slice a n c := by obtain ⟨a, c, e, -⟩ := HO.out.shape; exact ⟨_, _, _, e⟩
      go_wp2_with fail
      refine h5.mono ?_
      rintro e w5 ⟨rfl, ho5, hg5⟩
      have HB5 : Hid (Below w.heap.size w w5) := HB.out.grown hg5 HB.out.size (fun k hk => by have := HO.out.block k hk; omega)
      have HO5 : Hid (w5.ownsRow (w.heap.size + 1) 9 1 (.slice a5 n5 k5) ks.length ((ks.mergeSort (fun x y => decide (x ≤ y))).map encStr)) := ho5
      clear h5 ho5 hg5
      go_wp2
      go_ret
      refine ⟨_, ks, rfl, ⟨HO5.out.1, ?_⟩, HND.out, fun b => ?_, HB5.out⟩
      · rcases HO5.out.2 with h | ⟨gg, cap, cur, e, hb, r⟩
        · exact .inl h
        · exact .inr ⟨gg, cap, cur, e, by omega, r⟩
      · rw [HM.out b]
        constructor
        · rintro ⟨h1, _, h3⟩; exact ⟨h1, h3⟩
        · rintro ⟨h1, h3⟩; exact ⟨h1, hl0 _, h3⟩
    · intro x c kl d ps w1 cnt1 hkey hlx hv hps hat hrg1 hlt hg1 hs1 hen
      obtain ⟨s, e1, rfl, hsz⟩ := WideMaps.string_of_keyOf Try.underlying9 hkey
      simp only [Value.string.injEq] at e1
      subst e1
      subst hv hps
      obtain ⟨u, hu, hou⟩ := HSP.out.obj x
      rw [show D.atKey (klit x) zobj = .held c from hat _] at hu
      simp only [DataW.held.injEq] at hu
      obtain ⟨a, k, c0, rfl⟩ := hou.isSlice
      subst hu
      have HB1 : Hid (Below w.heap.size w w1) := HB.out.grown hg1 HB.out.size (by simp)
      have hO1 : OwnV w1 (w.heap.size + 1) 9 v (ks.map encStr) := by
        refine World.ownsRow.kept HO.out hg1 ?_
        rcases hvb : v.ownBlock with _ | kb
        · exact .inl rfl
        · right
          have := HO.out.block kb hvb
          intro e
          simp at e
          omega
      have hbx : Below w1.heap.size w1 (w1.alloc (.cells #[.slice a k c0] 25)) := (Below.refl _ _).alloc (Nat.le_refl _) _
      have HB2 : Hid (Below w.heap.size w (w1.alloc (.cells #[.slice a k c0] 25))) := HB1.out.trans (hbx.mono HB1.out.size)
      have h2 := dirty_right _ (F x) m (w1.alloc (.cells #[.slice a k c0] 25)) (hou.later HB2.out) (HSP.out.right x)
      rw [← dirtyAt_of F m x] at h2
      have HO2 : Hid (OwnV (w1.alloc (.cells #[.slice a k c0] 25)) (w.heap.size + 1) 9 v (ks.map encStr)) := hO1.alloc _
      have HR2 : Hid ((w1.alloc (.cells #[.slice a k c0] 25)).ranges Try.prog 9 Rv bm w.heap.size n D (fun z => left z && !z.sameKey (.string x.data.toList)) cnt1) := hrg1.alloc _
      have HZ2 : Hid (w.heap.size + 1 ≤ (w1.alloc (.cells #[.slice a k c0] 25)).heap.size) := by rw [Hid, World.size_alloc, hs1]; have := HZ.out; omega
      have HMEM : Hid (has D (.string x.data.toList) = true) := ranges_has hrg hlx
      have HNEW : Hid (x.data.toList ∉ ks) := fun hin => by have := ((HM.out _).1 hin).2.1; rw [hlx] at this; cases this
      have HLT : Hid (cnt1 < cnt) := hlt
      have HRL : Hid (wr.rangeLeft bm w.heap.size = cnt) := hrg.left_eq
      have HLX : Hid (left (.string x.data.toList) = true) := hlx
      clear hO1 hbx hg1 hrg1 hat hou hkey hrg0 hlx hrg hlt hs1
      go_wp2_with fail
      refine h2.mono ?_
      clear h2 hen
      rintro e w3 ⟨rfl, hb3⟩
      have HB3 : Hid (Below w.heap.size w w3) := HB2.out.trans (hb3.mono HB2.out.size)
      have HO3 : Hid (OwnV w3 (w.heap.size + 1) 9 v (ks.map encStr)) := HO2.out.later hb3
      have HR3 : Hid (w3.ranges Try.prog 9 Rv bm w.heap.size n D (fun z => left z && !z.sameKey (.string x.data.toList)) cnt1) := ranges_of HR2.out (hb3.block _ HR2.out.owns.lt) (hb3.block _ HR2.out.lt)
      have HZ3 : Hid (w.heap.size + 1 ≤ w3.heap.size) := Nat.le_trans HZ2.out hb3.size
      have HME : Hid (wr.rangeLeft bm w.heap.size = cnt) := HRL.out
      have hne : ∀ b : List UInt8, (fun z => left z && !z.sameKey (.string x.data.toList)) (.string b) = false ↔ left (.string b) = false ∨ b = x.data.toList := by
        intro b
        by_cases e : b = x.data.toList
        · simp [e, Lit.sameKey]
        · have : Lit.sameKey (.string b) (.string x.data.toList) = false := sameKey_ne (by simpa using e)
          simp [this, e]
      have HNE : Hid (∀ b : List UInt8, (fun z => left z && !z.sameKey (.string x.data.toList)) (.string b) = false ↔ left (.string b) = false ∨ b = x.data.toList) := hne
      clear hb3 hne HO2 HR2 HB2
      cases hd : dirtyAt F m x.data.toList
      · have HM2 : Hid (∀ b, b ∈ ks ↔ has D (.string b) = true ∧ (fun z => left z && !z.sameKey (.string x.data.toList)) (.string b) = false ∧ dirtyAt F m b = true) := by
          intro b
          rw [HM.out b, HNE.out b]
          constructor
          · rintro ⟨h1, h2, h3⟩; exact ⟨h1, .inl h2, h3⟩
          · rintro ⟨h1, h2 | h2, h3⟩
            · exact ⟨h1, h2, h3⟩
            · rw [h2, hd] at h3; cases h3
        clear hd
        go_wp2
        go_roundw
        case rel => exact ⟨v, ks, _, cnt1, rfl, HR3.out, HO3, HND, HM2, HB3, HZ3, by have := HL.out; have := HLT.out; show _ ≤ n; omega⟩
        case measure => rw [HR3.out.left_eq, HME.out]; exact HLT.out
      · have HM2 : Hid (∀ b, b ∈ ks ++ [x.data.toList] ↔ has D (.string b) = true ∧ (fun z => left z && !z.sameKey (.string x.data.toList)) (.string b) = false ∧ dirtyAt F m b = true) := by
          intro b
          rw [List.mem_append, HM.out b, HNE.out b]
          constructor
          · rintro (⟨h1, h2, h3⟩ | h)
            · exact ⟨h1, .inl h2, h3⟩
            · simp at h; rw [h]; exact ⟨HMEM.out, .inr rfl, hd⟩
          · rintro ⟨h1, h2 | h2, h3⟩
            · exact .inl ⟨h1, h2, h3⟩
            · exact .inr (by simp [h2])
        have HND2 : Hid ((ks ++ [x.data.toList]).Nodup) := by
          rw [Hid, List.nodup_append]
          refine ⟨HND.out, by simp, ?_⟩
          intro p hp q hq e
          simp at hq
          rw [e, hq] at hp
          exact HNEW.out hp
        clear hd
        have hlen : (ks.map encStr).length ≤ 1000000 := by have := HL.out; simp; omega
        have HO4 : Hid (OwnV (w3.alloc (.cells #[.string x] 9)) (w.heap.size + 1) 9 v (ks.map encStr)) := HO3.out.alloc _
        have hsz3 : w.heap.size + 1 ≤ (w3.alloc (.cells #[.string x] 9)).heap.size := by rw [World.size_alloc]; have := HZ3.out; omega
        have HB4 : Hid (Below w.heap.size w (w3.alloc (.cells #[.string x] 9))) := HB3.out.alloc HB3.out.size _
        have HR4 : Hid ((w3.alloc (.cells #[.string x] 9)).ranges Try.prog 9 Rv bm w.heap.size n D (fun z => left z && !z.sameKey (.string x.data.toList)) cnt1) := HR3.out.alloc _
        have HS3 : Hid (w.heap.size + 1 ≤ (w3.alloc (.cells #[.string x] 9)).heap.size) := hsz3
        go_wp2_with (at_builtin; refine wp_append_one 64 9 _ 16 Try.underlying64 Try.info_9 rfl rfl _ _ rfl (w.heap.size + 1) _ _ rfl HO4.out _ _ (.string x) rfl (by simp) rfl (by omega) (by omega) HS3.out ?_; intro v2 w4 ho4 hb4)
        go_roundw
        case rel =>
          refine ⟨v2, ks ++ [x.data.toList], _, cnt1, rfl, ranges_of HR4.out (hb4.block _ (by have := HBM.out; omega)) (hb4.block _ (by omega)), ?_, HND2, HM2, HB4.out.trans (hb4.mono (by omega)), Nat.le_trans HS3.out hb4.size, ?_⟩
          · show OwnV _ _ _ _ _
            rw [List.map_append, List.map_cons, List.map_nil, encStr_of]
            exact ho4
          · show _ ≤ n
            have := HL.out
            have := HLT.out
            simp
            omega
        case measure => rw [(ranges_of HR4.out (hb4.block _ (by have := HBM.out; omega)) (hb4.block _ (by omega))).left_eq, HME.out]; exact HLT.out
end Go.Proofs.Ytmahigfamgbhfaa
