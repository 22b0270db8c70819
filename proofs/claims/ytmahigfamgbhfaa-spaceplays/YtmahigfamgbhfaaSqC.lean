/- Keys of a space; the law's own Dirty: contracts. -/
import Derived.Test.YtmahigfamgbhfaaSqB
import Derived.Sort.KeysCollected
namespace Go.Proofs.Ytmahigfamgbhfaa
open Go.RowKit Go.Maps
open Go.Shelf
set_option linter.unusedVariables false
set_option linter.unusedSimpArgs false

theorem keys_of {w : World} {bm n : Nat} {D : DataW Value} (h : w.ownsMap Try.prog 9 Rv bm n D) {ss : List Bs} (hp : ss.Perm (strKeys D)) : ss.Nodup ∧ ∀ b, b ∈ ss ↔ has D (.string b) = true := by
  obtain ⟨ks, h1, h2, h3⟩ := map_keys h
  obtain ⟨l, rfl, hap, -⟩ := h.entries law9
  obtain ⟨l', e, hk⟩ := h.keysOf
  simp only [DataW.map.injEq] at e
  subst e
  have hstr : ∀ p ∈ l, ∃ b : Bs, p.1 = .string b := fun p hp => by
    obtain ⟨key, hkey⟩ := hk p hp
    obtain ⟨x, _, hx, _⟩ := Maps.keyOf_str Try.underlying9 hkey
    exact ⟨x, hx⟩
  have hq := perm_strKeys hap hstr h1 h3
  have hr := hp.trans hq.symm
  exact ⟨hr.nodup_iff.2 h1, fun b => hr.mem_iff.trans (h3 b)⟩
theorem owns_lower {w : World} {b1 b2 : Nat} {e : TypeId} {size n : Nat} {v : Value} {xs : List Value} (h : w.ownsRow b1 e size v n xs) (hb : b2 ≤ b1) : w.ownsRow b2 e size v n xs := by
  obtain ⟨h1, h2⟩ := h
  refine ⟨h1, ?_⟩
  rcases h2 with h2 | ⟨g, cap, cur, hv, hg, hx⟩
  · exact .inl h2
  · exact .inr ⟨g, cap, cur, hv, by omega, hx⟩
theorem take_dirty {L : List LRow} {k : Nat} (hk : k < L.length) (m : Int) : kb ((L.take (k + 1)).filter (dirtyR m)) = kb ((L.take k).filter (dirtyR m)) ++ (if decide ((undoL (rvers L k) m).length < (rvers L k).length) = true then [(rkey L k).data.toList] else []) := by
  have e1 : rkey L k = L[k].1 := by rw [rkey, List.getElem?_eq_getElem hk]; rfl
  have e2 : rvers L k = L[k].2 := by rw [rvers, List.getElem?_eq_getElem hk]; rfl
  rw [List.take_succ_eq_append_getElem hk, List.filter_append, kb, List.map_append, e1, e2]
  congr 1
  by_cases h : (undoL L[k].2 m).length < L[k].2.length
  · simp [List.filter_cons, dirtyR, h]
  · simp [List.filter_cons, dirtyR, h]
theorem keys54_some (bm : Nat) (W : World) : CallsIn Fence.wide 5 Try.prog 54 #[.map (some bm)] W fun e w' => e = .returned (.func (.func 68) #[] #[.pointer (some ⟨W.heap.size, 0, none⟩)]) ∧ w' = W.alloc (.cells #[.map (some bm)] 83) := keys54_any (some bm) W
theorem sorted_some (g bm n : Nat) (D : DataW Value) (F : ByteArray → List Ver) (w : World) (h : Sp w g bm n D F) (hn : n ≤ 1000000) :
    CallsIn Fence.wide 5 Try.prog 53 #[.func (.func 68) #[] #[.pointer (some ⟨w.heap.size, 0, none⟩)]] (w.alloc (.cells #[.map (some bm)] 83)) fun e w' => ∃ (v : Value) (ss : List (List UInt8)), e = .returned v ∧ ss.Perm (strKeys D) ∧
      w'.ownsRow (w.alloc (.cells #[.map (some bm)] 83)).heap.size 9 1 v ss.length ((ss.mergeSort (fun x y => decide (x ≤ y))).map encStr) ∧ (v = .slice none 0 0 ↔ ss = []) ∧ Below (w.alloc (.cells #[.map (some bm)] 83)).heap.size (w.alloc (.cells #[.map (some bm)] 83)) w' := by
  have hsz := h.map.size_le
  have hseq : SeqGives Fence.wide 2 Try.prog 68 #[.pointer (some ⟨w.heap.size, 0, none⟩)] encStr (fun ss : List (List UInt8) => ss.Perm (strKeys D)) (size D) (w.alloc (.cells #[.map (some bm)] 83)) :=
    AnyZ.keys_gives (ρ := Try.keys54_ren) { Try.keys54 with } Fence.wide 2 trivial rfl (by omega) w.heap.size bm n D _ (by simp) (by simp) (h.map.alloc _)
  exact AnyZ.sorted_in Try.sorted53 Fence.wide 5 trivial trivial trivial trivial rfl (by omega) (sorts53 _) (enters_of Try.func55 (by kernel_rfl) rfl) 68 #[.pointer (some ⟨w.heap.size, 0, none⟩)] trivial (enters_of Try.func68 (by kernel_rfl) rfl) _ (size D) (by unfold maxLen; omega) (by omega) _ hseq
set_option maxHeartbeats 1000000 in
theorem skeys_any (g bm n : Nat) (D : DataW Value) (F : ByteArray → List Ver) (w : World) (h : Sp w g bm n D F) (hn : n ≤ 1000000) : Calls Try.prog 33 #[.pointer (some ⟨g, 0, none⟩)] w fun e w' => ∃ (v : Value) (ss : List (List UInt8)), e = .returned v ∧ ss.Nodup ∧ (∀ b, b ∈ ss ↔ has D (.string b) = true) ∧ w'.ownsRow w.heap.size 9 1 v ss.length ((ss.mergeSort (fun x y => decide (x ≤ y))).map encStr) ∧ Below w.heap.size w w' := by
  refine (callsIn_wide (n := 6)).1 ?_
  have hfA : Fence.wide.fn 52 := trivial
  have hfK : Fence.wide.fn 54 := trivial
  have hfS : Fence.wide.fn 53 := trivial
  have hA : CallsIn Fence.wide 5 Try.prog 52 #[.pointer (some ⟨g, 0, none⟩)] w fun e w' => e = .returned (.map (some bm)) ∧ w' = w := callsIn_wide.2 (all_any g bm w h.cell)
  have hS := sorted_some g bm n D F w h hn
  have HK : Hid (w.ownsMap Try.prog 9 Rv bm n D) := h.map
  clear h
  refine callsIn_of_wp Try.func33 rfl trivial ?_ rfl
  simp only [Try.ntmps33, List.size_toArray, List.length_cons, List.length_nil, Nat.reduceAdd, Nat.reduceSub, Array.replicate_succ, Array.replicate_zero, List.push_toArray, List.append_toArray, List.nil_append, List.cons_append]
  gi_wp2_with (first
    | (gi_at_call 52; refine hA.mono ?_; rintro e w' ⟨rfl, rfl⟩)
    | (gi_at_call 54; refine (keys54_some _ _).mono ?_; rintro e w' ⟨rfl, rfl⟩)
    | (gi_at_call 53; refine hS.mono ?_; rintro e w' ⟨v, ss, rfl, hSS, hrow, hnil, hb⟩))
  go_ret
  obtain ⟨k1, k2⟩ := keys_of HK.out hSS
  exact ⟨_, ss, rfl, k1, k2, owns_lower hrow (by simp), ((Below.refl _ _).alloc (Nat.le_refl _) _).trans (hb.mono (by simp))⟩

set_option maxRecDepth 100000 in
set_option maxHeartbeats 4000000 in
theorem rdirty_any (gr : Nat) (L : List LRow) (m : Int) (w : World) (h : Rs w gr L) (hv : ∀ i, (rvers L i).length ≤ 1000000 ∧ Rises (rvers L i)) :
    Calls Try.prog 35 #[.pointer (some ⟨gr, 0, none⟩), .int .i64 m] w fun e w' => ∃ v, e = .returned v ∧ OwnV w' w.heap.size 9 v ((kb (L.filter (dirtyR m))).map encStr) ∧ Below w.heap.size w w' := by
  obtain ⟨ra, rk, rc, hx, hrow, -⟩ := h.box
  obtain rfl := hrow.1
  have hcap : L.length ≤ 1000000 := hrow.2.1
  have HR : Hid (RRow w ra L.length L) := hrow
  have HVS : Hid (∀ i, (rvers L i).length ≤ 1000000 ∧ Rises (rvers L i)) := hv
  have c0 : w.cell? ⟨gr, 0, none⟩ = some (.slice ra L.length rc) := cell_of_heap hx rfl
  clear hv hrow h hx
  go_enter Try.func35, Try.ntmps35
  go_wp2
  go_loopw [5, 13] (fun v t wr => ∃ k : Nat, t = .int .i64 (k : Nat) ∧ k ≤ L.length ∧ Hid (OwnV wr w.heap.size 9 v ((kb ((L.take k).filter (dirtyR m))).map encStr)) ∧ Hid (Below w.heap.size w wr)) (fun _ t _ => L.length - (intOf t).toNat)
  case atStart => exact ⟨0, rfl, by omega, by simp [kb]; exact OwnV.nil _ _ _, Below.refl _ _⟩
  case round =>
    obtain ⟨k, rfl, hk, HO, HW⟩ := hrel
    by_cases hlt : k < L.length
    · obtain ⟨b1, off1, rfl, hc1x⟩ := HR.out.at (by omega)
      obtain ⟨d0, uu, d1, ua, uk, uc, rfl, hv1, -⟩ := hc1x k hlt
      have HV1 : Hid (VRow w ua uk (rvers L k)) := hv1
      have HUK : Hid (uk = (rvers L k).length) := hv1.1.symm
      have d0 := (HW.out.cell (World.block_lt_of_cell? _ _ d0)).trans d0
      have d1 := (HW.out.cell (World.block_lt_of_cell? _ _ d1)).trans d1
      clear hc1x hv1
      have hv2 := HVS.out k
      have HTK : (kb ((L.take (k + 1)).filter (dirtyR m)) = kb ((L.take k).filter (dirtyR m)) ++ (if decide ((undoL (rvers L k) m).length < (rvers L k).length) = true then [(rkey L k).data.toList] else [])) := take_dirty hlt m
      have HXX : Hid ((wr.alloc (.cells #[.string (rkey L k), .slice ua uk uc] 66)).heap[wr.heap.size]? = some (.cells #[.string (rkey L k), .slice ua uk uc] 66)) := heap_alloc_new wr _
      have HWX : Hid (Below w.heap.size w (wr.alloc (.cells #[.string (rkey L k), .slice ua uk uc] 66))) := HW.out.alloc HW.out.size _
      have HOX : Hid (OwnV (wr.alloc (.cells #[.string (rkey L k), .slice ua uk uc] 66)) w.heap.size 9 u5 ((kb ((L.take k).filter (dirtyR m))).map encStr)) := HO.out.alloc _
      have hkl : (kb ((L.take k).filter (dirtyR m))).length ≤ 1000000 := by
        have := List.length_filter_le (dirtyR m) (L.take k)
        simp only [kb, List.length_map]
        simp only [List.length_take] at this
        omega
      go_upto_region 5 with fail
      clear d0 d1
      generalize hyx : wr.alloc (.cells #[.string (rkey L k), .slice ua uk uc] 66) = yx at *
      clear hyx
      generalize wr.heap.size = px at *
      have x0 : yx.cell? ⟨px, 0, none⟩ = some (.string (rkey L k)) := cell_of_heap HXX.out rfl
      have x1 : yx.cell? ⟨px, 1, none⟩ = some (.slice ua uk uc) := cell_of_heap HXX.out rfl
      refine wp_region_noPanic ?_
      refine wp_region_held_drew (S := (fun w' => w'.cell? ⟨px, 0, none⟩ = some (.string (rkey L k)) ∧ w'.cell? ⟨px, 1, none⟩ = some (.slice ua uk uc))) (by kernel_rfl) ?_ (fun hHeld => ?_)
      · exact ⟨x0, x1⟩
      refine held_take (i := 0) (d := 17) (v := ?_) rfl rfl (by kernel_rfl) (by kernel_rfl) (by kernel_rfl) (fun _ _ _ h => h) (Or.inl ⟨by rfl, ?_⟩) hHeld ?_
      rotate_left
      · (intro w hSw; (try dsimp only at hSw); go_simp; all_goals (with_reducible rfl))
      try simp only [Act.put, List.setIfInBounds_toArray, List.set_cons_zero, List.set_cons_succ]
      refine held_take (i := 1) (d := 18) (v := ?_) rfl rfl (by kernel_rfl) (by kernel_rfl) (by kernel_rfl) (fun _ _ _ h => h) (Or.inl ⟨by rfl, ?_⟩) hHeld ?_
      rotate_left
      · (intro w hSw; (try dsimp only at hSw); go_simp; all_goals (with_reducible rfl))
      try simp only [Act.put, List.setIfInBounds_toArray, List.set_cons_zero, List.set_cons_succ]
      refine held_take (i := 2) (d := 19) (v := ?_) rfl rfl (by kernel_rfl) (by kernel_rfl) (by kernel_rfl) (fun _ _ _ h => h) (Or.inl ⟨by rfl, ?_⟩) hHeld ?_
      rotate_left
      · (intro w hSw; (try dsimp only at hSw); go_simp; all_goals (with_reducible rfl))
      try simp only [Act.put, List.setIfInBounds_toArray, List.set_cons_zero, List.set_cons_succ]
      refine held_take (i := 5) (d := 22) (v := ?_) rfl rfl (by kernel_rfl) (by kernel_rfl) (by kernel_rfl) (fun _ _ _ h => h) (Or.inl ⟨by rfl, ?_⟩) hHeld ?_
      rotate_left
      · (intro w hSw; (try dsimp only at hSw); go_simp; all_goals (with_reducible rfl))
      try simp only [Act.put, List.setIfInBounds_toArray, List.set_cons_zero, List.set_cons_succ]
      refine held_take (i := 6) (d := 23) (v := ?_) rfl rfl (by kernel_rfl) (by kernel_rfl) (by kernel_rfl) (fun _ _ _ h => h) (Or.inl ⟨by rfl, ?_⟩) hHeld ?_
      rotate_left
      · (intro w hSw; (try dsimp only at hSw); go_simp; all_goals (with_reducible rfl))
      try simp only [Act.put, List.setIfInBounds_toArray, List.set_cons_zero, List.set_cons_succ]
      refine held_take (i := 7) (d := 24) (v := ?_) rfl rfl (by kernel_rfl) (by kernel_rfl) (by kernel_rfl) (fun _ _ _ h => h) (Or.inl ⟨by rfl, ?_⟩) hHeld ?_
      rotate_left
      · (intro w hSw; (try dsimp only at hSw); go_simp; all_goals (with_reducible rfl))
      try simp only [Act.put, List.setIfInBounds_toArray, List.set_cons_zero, List.set_cons_succ]
      refine wpAnyH_ready (rs := [3]) (by kernel_rfl) (by simp) ?_
      refine AllReadyH.cons rfl (fun K hK => ?_) AllReadyH.nil
      go_simp
      have q := ref_undo_any ua uk uc m (rvers L k) yx.drew (HV1.out.later HWX.out.drew) (by have := HUK.out; have := hv2.1; omega)
      refine q.mono ?_
      clear q
      rintro e yq ⟨v, rfl, hq, hbq⟩
      obtain ⟨sa, sc, rfl, -⟩ := hq.slice
      have y0 : yq.cell? ⟨px, 0, none⟩ = some (.string (rkey L k)) := cell_later hbq (show yx.drew.cell? _ = _ from x0)
      have y1 : yq.cell? ⟨px, 1, none⟩ = some (.slice ua uk uc) := cell_later hbq (show yx.drew.cell? _ = _ from x1)
      have HWQ : Hid (Below w.heap.size w yq) := HWX.out.drew.trans (hbq.mono HWX.out.drew.size)
      have HOQ : Hid (OwnV yq w.heap.size 9 u5 ((kb ((L.take k).filter (dirtyR m))).map encStr)) := (show OwnV yx.drew _ _ _ _ from HOX.out).later hbq
      rw [undo_filter hv2.2 m]
      clear hq hbq x0 x1 HOX HWX
      go_wp2_with fail
      refine hK.out _ _ ?_ (fun hHeld => ?_)
      · exact ⟨y0, y1⟩
      clear hK K
      try simp only [Act.put, List.setIfInBounds_toArray, List.set_cons_zero, List.set_cons_succ]
      refine held_take (i := 4) (d := 21) (v := ?_) rfl rfl (by kernel_rfl) (by kernel_rfl) (by kernel_rfl) (fun _ _ _ h => h) (Or.inl ⟨by rfl, ?_⟩) hHeld ?_
      rotate_left
      · (intro w hSw; (try dsimp only at hSw); go_simp; all_goals (with_reducible rfl))
      try simp only [Act.put, List.setIfInBounds_toArray, List.set_cons_zero, List.set_cons_succ]
      refine held_take (i := 8) (d := 25) (v := ?_) rfl rfl (by kernel_rfl) (by kernel_rfl) (by kernel_rfl) (fun _ _ _ h => h) (Or.inl ⟨by rfl, ?_⟩) hHeld ?_
      rotate_left
      · (intro w hSw; (try dsimp only at hSw); go_simp; all_goals (with_reducible rfl))
      try simp only [Act.put, List.setIfInBounds_toArray, List.set_cons_zero, List.set_cons_succ]
      refine wpAnyH_done (by kernel_rfl) ?_ _
      refine NoPanic.normal ?_
      clear HV1 HXX HW HO
      have huk := HUK.out
      rw [← huk] at HTK
      clear HUK
      by_cases hd : (undoL (rvers L k) m).length < uk
      · rw [decide_eq_true hd, if_pos rfl] at HTK
        have hdd : ((undoL (rvers L k) m).length : Int) < (uk : Int) := by omega
        have HO4 : Hid (OwnV (yq.alloc (.cells #[.string (rkey L k)] 9)) w.heap.size 9 u5 ((kb ((L.take k).filter (dirtyR m))).map encStr)) := HOQ.out.alloc _
        have HB4 : Hid (Below w.heap.size w (yq.alloc (.cells #[.string (rkey L k)] 9))) := HWQ.out.alloc HWQ.out.size _
        have hml : ((kb ((L.take k).filter (dirtyR m))).map encStr).length ≤ 1000000 := by simpa using hkl
        have hes : encStr (rkey L k).data.toList = .string (rkey L k) := encStr_of _
        have HTK2 : Hid ((kb ((L.take (k + 1)).filter (dirtyR m))).map encStr = (kb ((L.take k).filter (dirtyR m))).map encStr ++ [.string (rkey L k)]) := by
          rw [Hid, HTK, List.map_append, List.map_cons, List.map_nil, hes]
        clear HTK hd hes hkl huk hv2
        generalize (kb ((L.take k).filter (dirtyR m))).map encStr = xs at *
        generalize (undoL (rvers L k) m).length = nu at *
        go_wp2_with (at_builtin; refine wp_append_one 64 9 _ 16 Try.underlying64 Try.info_9 rfl rfl _ _ rfl w.heap.size _ _ rfl HO4.out _ _ (.string (rkey L k)) rfl (by simp) rfl (by omega) (by omega) HB4.out.size ?_; intro v2 w4 ho4 hb4)
        go_roundw
        case rel => exact ⟨k + 1, by go_num, by omega, by rw [HTK2.out]; exact ho4, HB4.out.trans hb4⟩
        case measure => simp [intOf]; omega
      · rw [decide_eq_false hd, if_neg (by simp), List.append_nil] at HTK
        have hdd : ¬ ((undoL (rvers L k) m).length : Int) < (uk : Int) := by omega
        have HTK2 := hid_of HTK
        clear HTK hd huk hv2
        generalize (undoL (rvers L k) m).length = nu at *
        go_wp2
        go_roundw
        case rel => exact ⟨k + 1, by go_num, by omega, by rw [HTK2.out]; exact HOQ.out, HWQ.out⟩
        case measure => simp [intOf]; omega
    · have hkk : k = L.length := by omega
      subst hkk
      rw [List.take_length] at HO
      go_wp2
      go_ret
      exact ⟨_, rfl, HO.out, HW.out⟩
end Go.Proofs.Ytmahigfamgbhfaa
