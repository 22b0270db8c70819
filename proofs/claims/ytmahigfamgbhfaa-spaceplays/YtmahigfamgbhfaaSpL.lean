/- The law's own space: how a key's versions are set: a contract. -/
import Derived.Test.YtmahigfamgbhfaaSpK
import Derived.Deep.Cut
namespace Go.Proofs.Ytmahigfamgbhfaa
open Go.RowKit Go.Maps
set_option linter.unusedVariables false

theorem rrow_parts (L : List LRow) (k : Nat) : rrow L k = (rkey L k, rvers L k) := rfl
theorem VRow.box {w w' : World} {a : Option Addr} {n gr : Nat} {l : List Ver} {u : Value} (h : VRow w a n l) (hb : w.heap[gr]? = some (.cells #[u] 59)) (hu : ∀ i, u ≠ .int .i64 i) (hk : ∀ k, k < w.heap.size → k ≠ gr → w'.heap[k]? = w.heap[k]?) : VRow w' a n l := by
  refine h.but gr hk (fun off i hc => ?_)
  rw [World.cell?] at hc
  simp only [hb] at hc
  match off, hc with
  | 0, hc => exact hu i (by simpa using hc)
  | off + 1, hc => simp at hc
/-- what is made is laid into the space -/
theorem set_end {w w2 : World} {gr : Nat} {a : Option Addr} {n cap : Nat} {v : Value} {o : List LRow} (hbox : w.heap[gr]? = some (.cells #[.slice a n cap] 59)) (hb : Below w.heap.size w w2) (ho : ROwn w w2 w.heap.size v o) (hn : o.length ≤ 1000000) :
    Rs (w2.setCell ⟨gr, 0, none⟩ v) gr o ∧ w.grownBy (w2.setCell ⟨gr, 0, none⟩ v) (some gr) := by
  have hlt : gr < w.heap.size := (Array.getElem?_eq_some_iff.1 hbox).1
  have hb2 : w2.heap[gr]? = some (.cells #[.slice a n cap] 59) := (hb.block gr hlt).trans hbox
  have hset : ∀ k, k ≠ gr → (w2.setCell ⟨gr, 0, none⟩ v).heap[k]? = w2.heap[k]? := fun k hne => Below.heap_setCell _ _ _ _ hne
  have hsz : (w2.setCell ⟨gr, 0, none⟩ v).heap.size = w2.heap.size := by simp
  refine ⟨?_, ⟨?_, ?_, ?_, ?_, ?_⟩⟩
  · obtain ⟨a', k', c', rfl, hr, h0⟩ := ho.row hb hn
    refine ⟨a', k', c', heap_setCell_same w2 _ 0 _ 59 _ hb2, ⟨hr.1, hr.2.1, ?_⟩, h0⟩
    rcases hr.2.2 with e | ⟨b, off, rfl, hc⟩
    · exact .inl e
    · have hne : b ≠ gr := by
        have := ho.block b rfl
        omega
      have cell : ∀ off' u, w2.cell? ⟨b, off', none⟩ = some u → (w2.setCell ⟨gr, 0, none⟩ (.slice (some ⟨b, off, none⟩) k' c')).cell? ⟨b, off', none⟩ = some u := by
        intro off' u h
        exact (World.cell?_of_block (hset b hne)).trans h
      refine .inr ⟨b, off, rfl, fun i hi => ?_⟩
      obtain ⟨c0, u, c1, ua, uk, uc, rfl, hv, hv0⟩ := hc i hi
      exact ⟨cell _ _ c0, _, cell _ _ c1, ua, uk, uc, rfl, hv.box hb2 (by simp) (fun k _ hne => hset k hne), hv0⟩
  · exact hb.os
  · exact hb.tape
  · exact hb.output
  · rw [hsz]; exact hb.size
  · intro k hk hne
    rw [hset k (fun e => hne (by rw [e]))]
    exact hb.block k hk
set_option maxRecDepth 100000 in
set_option maxHeartbeats 8000000 in
theorem set_any (gr : Nat) (L : List LRow) (key : ByteArray) (ua : Option Addr) (uk uc : Nat) (l : List Ver) (w : World) (h : Rs w gr L) (hu : Rf w (.slice ua uk uc) l) (hL : L.length < 1000000) :
    Calls Try.prog 66 #[.pointer (some ⟨gr, 0, none⟩), .string key, .slice ua uk uc] w fun e w' => e = .returned (.tuple #[]) ∧ Rs w' gr (setL L key l) ∧ w.grownBy w' (some gr) := by
  obtain ⟨a, n, cap, hbox, hr, -⟩ := h.box
  have c0 : w.cell? ⟨gr, 0, none⟩ = some (.slice a n cap) := cell_of_heap hbox rfl
  have HR : Hid (RRow w a n L) := hr
  have HU : Hid (Rf w (.slice ua uk uc) l) := hu
  have hu1 : l.length = uk := by obtain ⟨xa, xk, xc, e, h1, -⟩ := hu; injection e with e1 e2 e3; rw [e2]; exact h1.1
  have HBX : Hid (w.heap[gr]? = some (.cells #[.slice a n cap] 59)) := hbox
  have hlen : n ≤ 1000000 := hr.2.1
  have hd0 : ((uk : Int) == 0) = decide (l.length = 0) := by rw [hu1]; by_cases e : uk = 0 <;> simp [e]
  have HD0 : Hid (setSt key l (L.take 0) = ([], ((uk : Int) == 0))) := by rw [Hid, hd0]; rfl
  clear hr h hbox hu hd0 hu1
  go_enter Try.func66, Try.ntmps66
  go_wp2
  go_loopw [6, 7, 18] (fun s6 s7 s18 wr => ∃ (k : Nat) (v : Value) (o : List LRow) (d : Bool), v = s6 ∧ s7 = .bool d ∧ s18 = .int .i64 (k : Nat) ∧ k ≤ n ∧ Hid (setSt key l (L.take k) = (o, d)) ∧ Hid (ROwn w wr w.heap.size v o) ∧ Hid (Below w.heap.size w wr)) (fun _ _ s18 _ => n - (intOf s18).toNat)
  case atStart => exact ⟨0, _, [], _, rfl, rfl, rfl, by omega, HD0, ROwn.nil _ _ _, Below.refl _ _⟩
  case round =>
    obtain ⟨k, v, o, d, rfl, rfl, rfl, hk, HST, HO, HB⟩ := hrel
    have hol : o.length ≤ 1000000 := by
      have := setSt_length key l (L.take k)
      rw [HST.out] at this
      have := List.length_take_le k L
      have : (L.take k).length ≤ k := by simp; omega
      simp at *
      omega
    by_cases hlt : k < n
    · obtain ⟨b, off, rfl, hc⟩ := HR.out.at (by omega)
      obtain ⟨d0', u, d1', hu⟩ := hc k hlt
      clear hc
      obtain ⟨va, vk, vc, rfl, hv⟩ := hu
      have HRV : Hid (Rf w (.slice va vk vc) (rvers L k)) := ⟨va, vk, vc, rfl, hv⟩
      have d0 := cell_later HB.out d0'
      have d1 := cell_later HB.out d1'
      clear d0' d1' hv
      have HS2 : Hid (setSt key l (L.take (k + 1)) = setStep key l (o, d) (rkey L k, rvers L k)) := by rw [Hid, setSt_succ key l L k (by rw [HR.out.1]; exact hlt), HST.out, rrow_parts]
      generalize rkey L k = rk at *
      generalize rvers L k = rv at *
      have HX : Hid (Below w.heap.size w (wr.alloc (.cells #[.string rk, .slice va vk vc] 66))) := HB.out.alloc HB.out.size _
      have HO1 : Hid (ROwn w (wr.alloc (.cells #[.string rk, .slice va vk vc] 66)) w.heap.size v o) := HO.out.later ((Below.refl _ _).alloc (Nat.le_refl _) _)
      have hrb : (wr.alloc (.cells #[.string rk, .slice va vk vc] 66)).heap[wr.heap.size]? = some (.cells #[.string rk, .slice va vk vc] 66) := heap_alloc_new wr _
      have HVL : Hid (∀ k, v.ownBlock = some k → k < wr.heap.size) := HO.out.lt
      cases d
      · cases hless : Op.bytesLess rk.toList key.toList
        · by_cases he : rk.toList = key.toList
          · have hbe : (rk.toList == key.toList) = true := by simp [he]
            have HE : Hid (setStep key l (o, false) (rk, rv) = (o ++ [(key, l)], true)) := by rw [Hid, setStep]; simp only [hless]; simp [he]
            clear he
            have HX2 : Hid (Below w.heap.size w ((wr.alloc (.cells #[.string rk, .slice va vk vc] 66)).alloc (.cells #[.string key, .slice ua uk uc] 66))) := HX.out.alloc HX.out.size _
            have HO2 : Hid (ROwn w ((wr.alloc (.cells #[.string rk, .slice va vk vc] 66)).alloc (.cells #[.string key, .slice ua uk uc] 66)) w.heap.size v o) := HO1.out.later ((Below.refl _ _).alloc (Nat.le_refl _) _)
            have hg2 : ((wr.alloc (.cells #[.string rk, .slice va vk vc] 66)).alloc (.cells #[.string key, .slice ua uk uc] 66)).heap[wr.heap.size + 1]? = some (.cells #[.string key, .slice ua uk uc] 66) := by
              have := heap_alloc_new (wr.alloc (.cells #[.string rk, .slice va vk vc] 66)) (.cells #[.string key, .slice ua uk uc] 66)
              rwa [World.size_alloc] at this
            have hr2 : ((wr.alloc (.cells #[.string rk, .slice va vk vc] 66)).alloc (.cells #[.string key, .slice ua uk uc] 66)).heap[wr.heap.size]? = some (.cells #[.string rk, .slice va vk vc] 66) := (heap_alloc_old _ _ (by simp)).trans hrb
            go_wp2_with (at_builtin; refine wp_append_lrow rfl _ _ rfl w w.heap.size _ o rfl HO2.out _ _ key ua uk uc l rfl hg2 HU.out (by omega) HX2.out.size ?_; intro v2 w2 ho2 hb2 hgg2; have HB3 : Hid (Below w.heap.size w w2) := HX2.out.trans hb2; have HO3 : Hid (ROwn w w2 w.heap.size v2 (o ++ [(key, l)])) := ho2; have hr3 : w2.heap[wr.heap.size]? = some (.cells #[.string rk, .slice va vk vc] 66) := (hgg2.block wr.heap.size (by simp; omega) (fun e => by have := HVL.out wr.heap.size e.symm; omega)).trans hr2; have p0 := cell_of_heap (i := 0) hr3 rfl; have p1 := cell_of_heap (i := 1) hr3 rfl; clear ho2 hb2 hgg2)
            go_roundw
            case rel => exact ⟨k + 1, v2, _, _, rfl, rfl, by go_num, by omega, by rw [Hid, HS2.out, HE.out], HO3, HB3⟩
            case measure => simp [intOf]; omega
          · have hbe : (rk.toList == key.toList) = false := by simp [he]
            have HE : Hid (setStep key l (o, false) (rk, rv) = (o ++ [(key, l)] ++ [(rk, rv)], true)) := by rw [Hid, setStep]; simp only [hless]; simp [he]
            clear he
            have HX2 : Hid (Below w.heap.size w ((wr.alloc (.cells #[.string rk, .slice va vk vc] 66)).alloc (.cells #[.string key, .slice ua uk uc] 66))) := HX.out.alloc HX.out.size _
            have HO2 : Hid (ROwn w ((wr.alloc (.cells #[.string rk, .slice va vk vc] 66)).alloc (.cells #[.string key, .slice ua uk uc] 66)) w.heap.size v o) := HO1.out.later ((Below.refl _ _).alloc (Nat.le_refl _) _)
            have hg2 : ((wr.alloc (.cells #[.string rk, .slice va vk vc] 66)).alloc (.cells #[.string key, .slice ua uk uc] 66)).heap[wr.heap.size + 1]? = some (.cells #[.string key, .slice ua uk uc] 66) := by
              have := heap_alloc_new (wr.alloc (.cells #[.string rk, .slice va vk vc] 66)) (.cells #[.string key, .slice ua uk uc] 66)
              rwa [World.size_alloc] at this
            have hr2 : ((wr.alloc (.cells #[.string rk, .slice va vk vc] 66)).alloc (.cells #[.string key, .slice ua uk uc] 66)).heap[wr.heap.size]? = some (.cells #[.string rk, .slice va vk vc] 66) := (heap_alloc_old _ _ (by simp)).trans hrb
            go_wp2_with (first | (at_builtin; refine wp_append_lrow rfl _ _ rfl w w.heap.size _ o rfl HO2.out _ _ key ua uk uc l rfl hg2 HU.out (by omega) HX2.out.size ?_; intro v2 w2 ho2 hb2 hgg2; have HB3 : Hid (Below w.heap.size w w2) := HX2.out.trans hb2; have HO3 : Hid (ROwn w w2 w.heap.size v2 (o ++ [(key, l)])) := ho2; have hr3 : w2.heap[wr.heap.size]? = some (.cells #[.string rk, .slice va vk vc] 66) := (hgg2.block wr.heap.size (by simp; omega) (fun e => by have := HVL.out wr.heap.size e.symm; omega)).trans hr2; have p0 := cell_of_heap (i := 0) hr3 rfl; have p1 := cell_of_heap (i := 1) hr3 rfl; clear ho2 hb2 hgg2; have HB4 : Hid (Below w.heap.size w (w2.alloc (.cells #[.string rk, .slice va vk vc] 66))) := HB3.out.alloc HB3.out.size _; have HO4 : Hid (ROwn w (w2.alloc (.cells #[.string rk, .slice va vk vc] 66)) w.heap.size v2 (o ++ [(key, l)])) := HO3.out.later ((Below.refl _ _).alloc (Nat.le_refl _) _); have hg4 : (w2.alloc (.cells #[.string rk, .slice va vk vc] 66)).heap[w2.heap.size]? = some (.cells #[.string rk, .slice va vk vc] 66) := heap_alloc_new w2 _; have hol2 : (o ++ [(key, l)]).length ≤ 1000001 := (by simp; omega)) | (at_builtin; refine wp_append_lrow rfl _ _ rfl w w.heap.size _ (o ++ [(key, l)]) rfl HO4.out _ _ rk va vk vc rv rfl hg4 HRV.out (by omega) HB4.out.size ?_; intro v3 w3 ho3 hb3 hgg3))
            go_roundw
            case rel => exact ⟨k + 1, v3, _, _, rfl, rfl, by go_num, by omega, by rw [Hid, HS2.out, HE.out], ho3, HB4.out.trans hb3⟩
            case measure => simp [intOf]; omega
        · by_cases he : rk.toList = key.toList
          · have hbe : (rk.toList == key.toList) = true := by simp [he]
            have HE : Hid (setStep key l (o, false) (rk, rv) = (o, false)) := by rw [Hid, setStep]; simp only [hless]; simp [he]
            clear he
            go_wp2
            go_roundw
            case rel => exact ⟨k + 1, v, _, _, rfl, rfl, by go_num, by omega, by rw [Hid, HS2.out, HE.out], HO1, HX⟩
            case measure => simp [intOf]; omega
          · have hbe : (rk.toList == key.toList) = false := by simp [he]
            have HE : Hid (setStep key l (o, false) (rk, rv) = (o ++ [(rk, rv)], false)) := by rw [Hid, setStep]; simp only [hless]; simp [he]
            clear he
            have HX2 : Hid (Below w.heap.size w ((wr.alloc (.cells #[.string rk, .slice va vk vc] 66)).alloc (.cells #[.string rk, .slice va vk vc] 66))) := HX.out.alloc HX.out.size _
            have HO2 : Hid (ROwn w ((wr.alloc (.cells #[.string rk, .slice va vk vc] 66)).alloc (.cells #[.string rk, .slice va vk vc] 66)) w.heap.size v o) := HO1.out.later ((Below.refl _ _).alloc (Nat.le_refl _) _)
            have hg2 : ((wr.alloc (.cells #[.string rk, .slice va vk vc] 66)).alloc (.cells #[.string rk, .slice va vk vc] 66)).heap[wr.heap.size + 1]? = some (.cells #[.string rk, .slice va vk vc] 66) := by
              have := heap_alloc_new (wr.alloc (.cells #[.string rk, .slice va vk vc] 66)) (.cells #[.string rk, .slice va vk vc] 66)
              rwa [World.size_alloc] at this
            go_wp2_with (at_builtin; refine wp_append_lrow rfl _ _ rfl w w.heap.size _ o rfl HO2.out _ _ rk va vk vc rv rfl hg2 HRV.out (by omega) HX2.out.size ?_; intro v2 w2 ho2 hb2 hgg2)
            go_roundw
            case rel => exact ⟨k + 1, v2, _, _, rfl, rfl, by go_num, by omega, by rw [Hid, HS2.out, HE.out], ho2, HX2.out.trans hb2⟩
            case measure => simp [intOf]; omega
      · by_cases he : rk.toList = key.toList
        · have hbe : (rk.toList == key.toList) = true := by simp [he]
          have HE : Hid (setStep key l (o, true) (rk, rv) = (o, true)) := by rw [Hid, setStep]; simp only [Bool.not_true]; simp [he]
          clear he
          go_wp2
          go_roundw
          case rel => exact ⟨k + 1, v, _, _, rfl, rfl, by go_num, by omega, by rw [Hid, HS2.out, HE.out], HO1, HX⟩
          case measure => simp [intOf]; omega
        · have hbe : (rk.toList == key.toList) = false := by simp [he]
          have HE : Hid (setStep key l (o, true) (rk, rv) = (o ++ [(rk, rv)], true)) := by rw [Hid, setStep]; simp only [Bool.not_true]; simp [he]
          clear he
          have HX2 : Hid (Below w.heap.size w ((wr.alloc (.cells #[.string rk, .slice va vk vc] 66)).alloc (.cells #[.string rk, .slice va vk vc] 66))) := HX.out.alloc HX.out.size _
          have HO2 : Hid (ROwn w ((wr.alloc (.cells #[.string rk, .slice va vk vc] 66)).alloc (.cells #[.string rk, .slice va vk vc] 66)) w.heap.size v o) := HO1.out.later ((Below.refl _ _).alloc (Nat.le_refl _) _)
          have hg2 : ((wr.alloc (.cells #[.string rk, .slice va vk vc] 66)).alloc (.cells #[.string rk, .slice va vk vc] 66)).heap[wr.heap.size + 1]? = some (.cells #[.string rk, .slice va vk vc] 66) := by
            have := heap_alloc_new (wr.alloc (.cells #[.string rk, .slice va vk vc] 66)) (.cells #[.string rk, .slice va vk vc] 66)
            rwa [World.size_alloc] at this
          go_wp2_with (at_builtin; refine wp_append_lrow rfl _ _ rfl w w.heap.size _ o rfl HO2.out _ _ rk va vk vc rv rfl hg2 HRV.out (by omega) HX2.out.size ?_; intro v2 w2 ho2 hb2 hgg2)
          go_roundw
          case rel => exact ⟨k + 1, v2, _, _, rfl, rfl, by go_num, by omega, by rw [Hid, HS2.out, HE.out], ho2, HX2.out.trans hb2⟩
          case measure => simp [intOf]; omega
    · have ek : k = n := by omega
      have HST2 : Hid (setSt key l L = (o, d)) := by
        have e := HST.out
        rwa [List.take_of_length_le (by rw [HR.out.1]; omega)] at e
      have HBX2 : Hid (wr.heap[gr]? = some (.cells #[.slice a n cap] 59)) := (HB.out.block gr (Array.getElem?_eq_some_iff.1 HBX.out).1).trans HBX.out
      subst ek
      clear hk hlt HST
      cases d
      · have HX2 : Hid (Below w.heap.size w (wr.alloc (.cells #[.string key, .slice ua uk uc] 66))) := HB.out.alloc HB.out.size _
        have HO2 : Hid (ROwn w (wr.alloc (.cells #[.string key, .slice ua uk uc] 66)) w.heap.size v o) := HO.out.later ((Below.refl _ _).alloc (Nat.le_refl _) _)
        have hg2 : (wr.alloc (.cells #[.string key, .slice ua uk uc] 66)).heap[wr.heap.size]? = some (.cells #[.string key, .slice ua uk uc] 66) := heap_alloc_new wr _
        have HSL : Hid (setL L key l = o ++ [(key, l)]) := by rw [Hid, setL, HST2.out]; simp
        go_wp2_with (at_builtin; refine wp_append_lrow rfl _ _ rfl w w.heap.size _ o rfl HO2.out _ _ key ua uk uc l rfl hg2 HU.out (by omega) HX2.out.size ?_; intro v2 w2 ho2 hb2 hgg2; have HB3 : Hid (Below w.heap.size w w2) := HX2.out.trans hb2; have HO3 : Hid (ROwn w w2 w.heap.size v2 (o ++ [(key, l)])) := ho2; clear ho2 hb2 hgg2; have hbx3 : Hid (w2.heap[gr]? = some (.cells #[.slice a k cap] 59)) := (HB3.out.block gr (Array.getElem?_eq_some_iff.1 HBX.out).1).trans HBX.out; have q0 := cell_of_heap (i := 0) hbx3.out rfl; have f0 : w2.frozen? ⟨gr, 0, none⟩ = false := frozen_of_row w2 _ _ _ _ hbx3.out; obtain ⟨a2, k2, c2, rfl, -, -⟩ := HO3.out.row HB3.out (by rw [← HSL.out]; exact Nat.le_trans (setL_length L key l) (by omega)))
        go_end0
        rw [HSL.out]
        refine ⟨rfl, ?_⟩
        exact set_end HBX.out HB3.out HO3.out (by rw [← HSL.out]; exact Nat.le_trans (setL_length L key l) (by omega))
      · have HSL : Hid (setL L key l = o) := by rw [Hid, setL, HST2.out]; simp
        have q0 := cell_of_heap (i := 0) HBX2.out rfl
        have f0 : wr.frozen? ⟨gr, 0, none⟩ = false := frozen_of_row wr _ _ _ _ HBX2.out
        obtain ⟨a2, k2, c2, rfl, -, -⟩ := HO.out.row HB.out (by omega)
        go_wp2
        go_end0
        rw [HSL.out]
        refine ⟨rfl, ?_⟩
        exact set_end HBX.out HB.out HO.out (by omega)
end Go.Proofs.Ytmahigfamgbhfaa
