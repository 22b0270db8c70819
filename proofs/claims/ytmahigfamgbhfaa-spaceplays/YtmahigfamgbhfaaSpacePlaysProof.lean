/-
  SpacePlays (P10.1, P10.2): for all calls, any key and any number, a space answers, and has, what the document says. No condition.
-/
import Derived.Test.YtmahigfamgbhfaaRows
import Derived.Test.YtmahigfamgbhfaaSqC
import Derived.Test.YtmahigfamgbhfaaSpW
import Derived.Test.YtmahigfamgbhfaaSpE
import Derived.WalkKit
import Derived.ProofKit
import Derived.OpenShut
import Derived.ShutString
import Derived.ChangeOld
import Derived.Below
namespace Go.Proofs.Ytmahigfamgbhfaa.spacePlays
open Go.ChangeShapes Go.WideShapes Go.ChangeAt Go.RowKit
open Go.ChangeMaps (open_string shut_string)
set_option linter.unusedSimpArgs false
set_option linter.unusedVariables false

theorem own : ownKnob Try.prog.godebug = none := by kernel_rfl
theorem laidOut : laidOutB Try.prog = true := by kernel_rfl

theorem take_keys {L : List LRow} {k : Nat} (hk : k < L.length) : (kb (L.take (k + 1))).map encStr = (kb (L.take k)).map encStr ++ [.string (rkey L k)] := by
  have e1 : rkey L k = L[k].1 := by rw [rkey, List.getElem?_eq_getElem hk]; rfl
  have e3 : encStr L[k].1.data.toList = .string L[k].1 := encStr_of _
  rw [List.take_succ_eq_append_getElem hk, kb, List.map_append, List.map_append, e1, List.map_cons, List.map_nil, List.map_cons, List.map_nil, e3]
  rfl
theorem key_size {w : World} {g bm n : Nat} {D : DataW Value} {F : ByteArray → List Ver} (h : Sp w g bm n D F) {s : ByteArray} (hs : F s ≠ []) : s.size ≤ maxLen := by
  have h1 := (h.keys s).2 hs
  have h2 := ((keys_of h.map (List.Perm.refl _)).2 s.data.toList).2 h1
  have h3 := strKeys_le h.map Try.underlying9 _ h2
  rw [Array.length_toList] at h3
  exact h3
theorem own_keys {w : World} {base : Nat} {v : Value} {ss l : List Bs} (h : w.ownsRow base 9 1 v ss.length ((ss.mergeSort (fun x y => decide (x ≤ y))).map encStr)) (e : ss.mergeSort (fun x y => decide (x ≤ y)) = l) : OwnV w base 9 v (l.map encStr) := by
  subst e
  show w.ownsRow base 9 1 v ((ss.mergeSort (fun x y => decide (x ≤ y))).map encStr).length _
  rw [List.length_map, List.length_mergeSort]
  exact h
theorem wrap_nat {j : Nat} (h : j ≤ 9223372036854775807) : IntKind.i64.wrap (j : Int) = (j : Int) := by
  rw [IntKind.wrap_i64]
  omega
theorem srt_filter {L : List LRow} (h : Srt L) (p : LRow → Bool) : Srt (L.filter p) := h.sublist List.filter_sublist
/-- an append of one, that leaves all blocks of other types -/
theorem wp_append_kept (t e : TypeId) (z : Value) (bytes : Nat) (hu : Try.prog.underlying t = some (.slice e)) (hinfo : (Try.prog.info? e).map (fun i => (i.zero, i.size, i.bytes)) = some (some z, 1, bytes)) (hz : z.cells.size = 1)
    {w : World} {ops : Array Oper} {rest : List Oper} {o : Oper} {a : Act} {Q : Exit → Act → World → Prop} (hgd : o.guard = none) (s x : Operand)
    (ho : o.op = .call { callee := .builtin .append, args := #[s, x], argTypes := #[t, t] })
    (base : Nat) (v : Value) (xs : List Value) (hs : a.eval s = v) (hown : OwnV w base e v xs)
    (ad : Addr) (c : Nat) (u : Value) (hx : a.eval x = .slice (some ad) 1 c) (hc : w.cell? ad = some u) (h1 : u.oneCell' = true)
    (hbytes : (xs.length + 1) * bytes ≤ 140737488355328) (hmany : xs.length ≤ 140737488355328) (hbase : base ≤ w.heap.size)
    (h : ∀ v' w', OwnV w' base e v' (xs ++ [u]) → Below base w w' → (∀ (k : Nat) (cs : Array Value) (t : TypeId) (m : Nat × Nat), w.heap[k]? = some (.cells cs t m) → t ≠ e → w'.heap[k]? = some (.cells cs t m)) → wpList Try.prog ops Q rest (a.put o.dst v') w') : wpList Try.prog ops Q (o :: rest) a w := by
  obtain ⟨i0, hi, hz0, hz1, hz2⟩ := info_parts hinfo
  refine wpList_append_own w hgd s x t ho base e i0 z 1 bytes hu hi hz0 hz1 hz2 hz (by decide) v _ _ hs hown ad 1 c [u] hx (by simp) ?_ (by simpa using h1) (by unfold maxLen; omega) hbytes hbase ?_
  · intro j y hj
    cases j with
    | zero => simp at hj; subst hj; rw [show ad.add 0 = ad from by simp [Addr.add]]; exact hc
    | succ j => simp at hj
  · intro v' w' h1 h2 _
    refine h v' w' ?_ ((Below.refl _ _).grown h2 hbase (OwnV.block hown)) (fun k cs t m hk hne => (h2.block k (Array.getElem?_eq_some_iff.1 hk).1 (fun e2 => ?_)).trans hk)
    · show w'.ownsRow base e 1 v' (xs ++ [u]).length (xs ++ [u])
      rw [List.length_append]
      exact h1
    · rcases hown.2 with ⟨rfl, _⟩ | ⟨g, cap, cur, rfl, hg, hh, _⟩
      · cases e2
      · simp only [Value.ownBlock, Option.some.injEq] at e2
        rw [e2, hh] at hk
        simp only [Option.some.injEq, Obj.cells.injEq] at hk
        exact hne hk.2.1.symm

/-! The law returns true, and writes nothing that was there. -/
set_option maxRecDepth 100000 in
set_option maxHeartbeats 16000000 in
theorem walk (a0 : Option Addr) (len0 cap0 : Nat) (O0 : Nat → Sop) (a1 : ByteArray) (a2 : Int) (w : World) (w0 : Sops w a0 len0 O0) (w1 : a1.size ≤ maxLen) (w2 : (Lit.int .i64 a2).wf = true) :
    Calls Try.prog 7 #[.slice a0 len0 cap0, .string a1, .int .i64 a2] w fun e w' => e = .returned (.bool true) ∧ Below w.heap.size w w' := by
  have HO0 : Hid (Sops w a0 len0 O0) := w0
  have hlen0 : len0 ≤ 9223372036854775807 := by have := w0.1; unfold maxLen at this; omega
  have HKEY : Hid (a1.size ≤ maxLen) := w1
  clear w0 w1
  go_enter Try.func7, Try.ntmps7
  go_wp2_with fail
  refine (new_any w).mono ?_
  rintro e v1 ⟨g, bm, rfl, hs1, hb1, hg1, hbm1⟩
  have b1 : Below v1.heap.size v1 (v1.alloc (.cells #[.slice none 0 0] 59)) := (Below.refl _ _).alloc (Nat.le_refl _) _
  have HS1 : Hid (St 0 (v1.alloc (.cells #[.slice none 0 0] 59)) g bm v1.heap.size (fun _ => []) []) := St.new v1 g bm hs1
  have HB1 : Hid (Below w.heap.size w (v1.alloc (.cells #[.slice none 0 0] 59))) := hb1.trans (b1.mono hb1.size)
  have HP1 : Hid (w.heap.size ≤ bm ∧ w.heap.size ≤ v1.heap.size) := ⟨hbm1, hb1.size⟩
  clear hs1 hb1 hg1 hbm1 b1
  go_wp2
  generalize hv2 : v1.alloc (.cells #[.slice none 0 0] 59) = v2 at *
  clear hv2
  generalize v1.heap.size = gr at *
  go_loopw [19] (fun t wr => ∃ k c : Nat, t = .int .i64 (k : Nat) ∧ k ≤ len0 ∧ c ≤ k ∧ c ≤ 30 ∧ Hid (∃ F L, St c wr g bm gr F L) ∧ Hid (Below w.heap.size w wr)) (fun t _ => len0 - (intOf t).toNat)
  case atStart => exact ⟨0, 0, rfl, by omega, by omega, by omega, ⟨_, _, HS1.out⟩, HB1.out⟩
  case round =>
    clear HS1 HB1
    obtain ⟨k, c, rfl, hk, hck, hc30, HF, HW⟩ := hrel
    by_cases hlt : k < len0
    · obtain ⟨b, off, rfl, hc⟩ := HO0.out.at (by omega)
      obtain ⟨hok, d0, d1, d2, d3, d4⟩ := hc k hlt
      have d0 := (HW.out.cell (World.block_lt_of_cell? _ _ d0)).trans d0
      have d1 := (HW.out.cell (World.block_lt_of_cell? _ _ d1)).trans d1
      have d2 := (HW.out.cell (World.block_lt_of_cell? _ _ d2)).trans d2
      have d3 := (HW.out.cell (World.block_lt_of_cell? _ _ d3)).trans d3
      have d4 := (HW.out.cell (World.block_lt_of_cell? _ _ d4)).trans d4
      have HOK : Hid (O0 k).ok := hok
      clear hc hok
      generalize O0 k = u at d0 d1 d2 d3 d4 HOK
      have HX : Hid (Below wr.heap.size wr (wr.alloc (.cells #[.int .i64 u.kind, .string u.key, .int .i64 u.pos, .string u.val, .bool u.gone] 61))) := (Below.refl _ _).alloc (Nat.le_refl _) _
      by_cases h30 : 30 ≤ k
      · have HBX : Hid (Below w.heap.size w (wr.alloc (.cells #[.int .i64 u.kind, .string u.key, .int .i64 u.pos, .string u.val, .bool u.gone] 61))) := HW.out.trans (HX.out.mono HW.out.size)
        clear HF HX
        go_wp2_with fail
        refine (awake10_any _).mono ?_
        rintro e w5 ⟨rfl, hb⟩
        have HBF : Hid (Below w.heap.size w w5) := HBX.out.trans (hb.mono HBX.out.size)
        clear hb d0 d1 d2 d3 d4
        go_wp2
        go_ret
        exact ⟨rfl, HBF.out⟩
      obtain ⟨F0, L0, hst⟩ := HF.out
      have HSX : Hid (St c (wr.alloc (.cells #[.int .i64 u.kind, .string u.key, .int .i64 u.pos, .string u.val, .bool u.gone] 61)) g bm gr F0 L0) := hst.later HX.out
      have HXX : Hid ((wr.alloc (.cells #[.int .i64 u.kind, .string u.key, .int .i64 u.pos, .string u.val, .bool u.gone] 61)).heap[wr.heap.size]? = some (.cells #[.int .i64 u.kind, .string u.key, .int .i64 u.pos, .string u.val, .bool u.gone] 61)) := heap_alloc_new wr _
      have h1 := step_any c g bm gr F0 L0 u.kind u.key u.pos u.val u.gone _ HSX.out (by omega) HOK.out.pos HOK.out.key HOK.out.val
      clear hst HF
      go_wp2_with fail
      refine h1.mono ?_
      clear h1
      rintro e w5 ⟨rfl, ⟨F, L, hst5⟩, ht5⟩
      have HNB : Hid (wr.heap.size ≠ bm ∧ wr.heap.size ≠ gr) := by
        obtain ⟨n', D', h1, _⟩ := HSX.out.sp
        obtain ⟨es, cl, hb, _⟩ := h1.map
        constructor
        · intro e; rw [← e, HXX.out] at hb; cases hb
        · intro e
          obtain ⟨a', k', c', hx, -⟩ := HSX.out.rs.box
          rw [← e, HXX.out] at hx
          cases hx
      have HX5 : Hid (w5.heap[wr.heap.size]? = some (.cells #[.int .i64 u.kind, .string u.key, .int .i64 u.pos, .string u.val, .bool u.gone] 61)) := (ht5.block _ (Array.getElem?_eq_some_iff.1 HXX.out).1 HNB.out.1 HNB.out.2).trans HXX.out
      have HS5 : Hid (St (c + 1) w5 g bm gr F L) := hst5
      have HW5 : Hid (Below w.heap.size w w5) := (HW.out.trans (HX.out.mono HW.out.size)).trans (ht5.below HP1.out.1 HP1.out.2 (by have := HW.out.size; have := HX.out.size; omega))
      clear hst5 ht5 HSX HXX HX HW HNB d0 d1 d2 d3 d4
      generalize wr.heap.size = px at *
      have hc999 : c + 1 < 1000 := by omega
      have h1 := reads_any (c + 1) g bm gr F L a1 a2 w5 HS5.out hc999 HKEY.out
      go_wp2_with fail
      refine h1.mono ?_
      clear h1
      rintro e w6 ⟨rfl, hb⟩
      have HX6 : Hid (w6.heap[px]? = some (.cells #[.int .i64 u.kind, .string u.key, .int .i64 u.pos, .string u.val, .bool u.gone] 61)) := (hb.block _ (Array.getElem?_eq_some_iff.1 HX5.out).1).trans HX5.out
      have HS6 : Hid (St (c + 1) w6 g bm gr F L) := HS5.out.later hb
      have HW6 : Hid (Below w.heap.size w w6) := HW5.out.trans (hb.mono HW5.out.size)
      clear hb HX5 HS5 HW5
      have e1 : w6.cell? ⟨px, 1, none⟩ = some (.string u.key) := cell_of_heap HX6.out rfl
      have h1 := reads_any (c + 1) g bm gr F L u.key a2 w6 HS6.out hc999 HOK.out.key
      go_wp2_with fail
      refine h1.mono ?_
      clear h1 e1
      rintro e w7 ⟨rfl, hb⟩
      have HS7 : Hid (St (c + 1) w7 g bm gr F L) := HS6.out.later hb
      have HW7 : Hid (Below w.heap.size w w7) := HW6.out.trans (hb.mono HW6.out.size)
      clear hb HX6 HS6 HW6
      obtain ⟨ra, rk, rc, hx, hrow, -⟩ := HS7.out.rs.box
      obtain rfl := hrow.1
      have hcap : L.length ≤ 1000000 := hrow.2.1
      have HR : Hid (RRow w7 ra L.length L) := hrow
      have c0 : w7.cell? ⟨gr, 0, none⟩ = some (.slice ra L.length rc) := cell_of_heap hx rfl
      clear hx hrow
      go_wp2
      clear c0
      go_loopw [11, 53] (fun v t wr => ∃ k2 : Nat, t = .int .i64 (k2 : Nat) ∧ k2 ≤ L.length ∧ Hid (OwnV wr w7.heap.size 9 v ((kb (L.take k2)).map encStr)) ∧ Hid (Below w7.heap.size w7 wr)) (fun _ t _ => L.length - (intOf t).toNat)
      case atStart => exact ⟨0, rfl, by omega, by simp [kb]; exact OwnV.nil _ _ _, Below.refl _ _⟩
      case round =>
        obtain ⟨k2, rfl, hk2, HO, HV⟩ := hrel
        by_cases hlt2 : k2 < L.length
        · obtain ⟨b1, off1, rfl, hc1x⟩ := HR.out.at (by omega)
          obtain ⟨d0, uu, d1, ua, uk, uc, rfl, hv1, -⟩ := hc1x k2 hlt2
          have HV1 : Hid (VRow w7 ua uk (rvers L k2)) := hv1
          have d0 := (HV.out.cell (World.block_lt_of_cell? _ _ d0)).trans d0
          have d1 := (HV.out.cell (World.block_lt_of_cell? _ _ d1)).trans d1
          clear hc1x hv1
          have HXX : Hid ((wr.alloc (.cells #[.string (rkey L k2), .slice ua uk uc] 66)).heap[wr.heap.size]? = some (.cells #[.string (rkey L k2), .slice ua uk uc] 66)) := heap_alloc_new wr _
          have HVX : Hid (Below w7.heap.size w7 (wr.alloc (.cells #[.string (rkey L k2), .slice ua uk uc] 66))) := HV.out.alloc HV.out.size _
          have HOX : Hid (OwnV (wr.alloc (.cells #[.string (rkey L k2), .slice ua uk uc] 66)) w7.heap.size 9 u11 ((kb (L.take k2)).map encStr)) := HO.out.alloc _
          have HTK2 : Hid ((kb (L.take (k2 + 1))).map encStr = (kb (L.take k2)).map encStr ++ [.string (rkey L k2)]) := take_keys hlt2
          have hkl : ((kb (L.take k2)).map encStr).length ≤ 1000000 := by simp [kb]; omega
          go_upto_region 12 with fail
          clear d0 d1
          generalize hyx : wr.alloc (.cells #[.string (rkey L k2), .slice ua uk uc] 66) = yx at *
          clear hyx
          generalize wr.heap.size = pv at *
          generalize (kb (L.take k2)).map encStr = xs at *
          have x0 : yx.cell? ⟨pv, 0, none⟩ = some (.string (rkey L k2)) := cell_of_heap HXX.out rfl
          have HX4 : Hid ((yx.alloc (.cells #[.string (rkey L k2)] 9)).heap[pv]? = some (.cells #[.string (rkey L k2), .slice ua uk uc] 66)) := (heap_alloc_old _ _ (Array.getElem?_eq_some_iff.1 HXX.out).1).trans HXX.out
          have HO4 : Hid (OwnV (yx.alloc (.cells #[.string (rkey L k2)] 9)) w7.heap.size 9 u11 xs) := HOX.out.alloc _
          have HV4 : Hid (Below w7.heap.size w7 (yx.alloc (.cells #[.string (rkey L k2)] 9))) := HVX.out.alloc HVX.out.size _
          clear HOX HVX HXX HO HV
          go_wp2_with (first | (at_builtin; refine wp_append_kept 64 9 _ 16 Try.underlying64 Try.info_9 rfl rfl _ _ rfl w7.heap.size _ _ rfl HO4.out _ _ (.string (rkey L k2)) rfl (by simp) rfl (by omega) (by omega) HV4.out.size ?_; intro v2 z1 ho1 hb1 hkp1) | fail)
          have HX9 : Hid (z1.heap[pv]? = some (.cells #[.string (rkey L k2), .slice ua uk uc] 66)) := hkp1 pv _ _ _ HX4.out (by decide)
          have HO9 : Hid (OwnV z1 w7.heap.size 9 v2 (xs ++ [.string (rkey L k2)])) := ho1
          have HV9 : Hid (Below w7.heap.size w7 z1) := HV4.out.trans hb1
          clear ho1 hb1 hkp1 HX4 HO4 HV4 x0 hkl
          obtain ⟨n9, D9, hsp9, hn9⟩ := HS7.out.sp
          have hne9 : rvers L k2 ≠ [] := by rw [rvers, List.getElem?_eq_getElem hlt2]; exact HS7.out.full _ (List.getElem_mem hlt2)
          have hF9 : F (rkey L k2) = rvers L k2 := by rw [← HS7.out.agree, rkey, rvers, List.getElem?_eq_getElem hlt2]; exact ofL_row HS7.out.sorted (List.getElem_mem hlt2)
          have hks9 : (rkey L k2).size ≤ maxLen := key_size hsp9 (by rw [hF9]; exact hne9)
          have hnum := snum_any g bm n9 D9 F (rkey L k2) z1.drew (hsp9.later HV9.out.drew) hks9
          rw [hF9] at hnum
          obtain ⟨j, rfl⟩ : ∃ j, uk = j + 1 := ⟨uk - 1, by have := HV1.out.1; have := List.length_pos_iff.2 hne9; omega⟩
          have hlast : lastL (rvers L k2) = nth (rvers L k2) j := by rw [lastL, HV1.out.1]; rfl
          rw [hlast] at hnum
          obtain ⟨vb, vo, rfl, q1⟩ : ∃ vb vo, ua = some ⟨vb, vo, none⟩ ∧ z1.cell? ⟨vb, vo + j * 4 + 1, none⟩ = some (.int .u64 ((nth (rvers L k2) j).num : Nat)) := by
            obtain ⟨_, _, _, h4⟩ := HV1.out
            rcases h4 with h4 | ⟨vb, vo, e, hcc⟩
            · exact absurd h4 hne9
            · have hd := (hcc j (by omega)).2.1
              exact ⟨vb, vo, e, (HV9.out.cell (World.block_lt_of_cell? _ _ hd)).trans hd⟩
          have huj : j + 1 ≤ 9223372036854775807 := by have := HV1.out.2.2.1; unfold maxLen at this; omega
          have hwj : IntKind.i64.wrap (j : Int) = (j : Int) := wrap_nat (by omega)
          have hj0 : (0 : Int) ≤ (j : Int) ∧ (j : Int) < (j : Int) + 1 := by omega
          have HNUM := hid_of hnum
          generalize ((nth (rvers L k2) j).num : Int) = num at *
          clear hsp9 hn9 hne9 hF9 hks9 hlast HV1 hnum
          have x0 : z1.cell? ⟨pv, 0, none⟩ = some (.string (rkey L k2)) := cell_of_heap HX9.out rfl
          have x1 : z1.cell? ⟨pv, 1, none⟩ = some (.slice (some ⟨vb, vo, none⟩) (j + 1) uc) := cell_of_heap HX9.out rfl
          refine wp_region_noPanic ?_
          refine wp_region_held_drew (S := (fun w' => w'.cell? ⟨pv, 0, none⟩ = some (.string (rkey L k2)) ∧ w'.cell? ⟨pv, 1, none⟩ = some (.slice (some ⟨vb, vo, none⟩) (j + 1) uc) ∧ w'.cell? ⟨vb, vo + j * 4 + 1, none⟩ = some (.int .u64 num))) (by kernel_rfl) ?_ (fun hHeld => ?_)
          · exact ⟨x0, x1, q1⟩
          refine held_take (i := 0) (d := 62) (v := ?_) rfl rfl (by kernel_rfl) (by kernel_rfl) (by kernel_rfl) (fun _ _ _ h => h) (Or.inl ⟨by rfl, ?_⟩) hHeld ?_
          rotate_left
          · (intro w hSw; (try dsimp only at hSw); go_simp; all_goals (with_reducible rfl))
          try simp only [Act.put, List.setIfInBounds_toArray, List.set_cons_zero, List.set_cons_succ]
          refine held_take (i := 1) (d := 63) (v := ?_) rfl rfl (by kernel_rfl) (by kernel_rfl) (by kernel_rfl) (fun _ _ _ h => h) (Or.inl ⟨by rfl, ?_⟩) hHeld ?_
          rotate_left
          · (intro w hSw; (try dsimp only at hSw); go_simp; all_goals (with_reducible rfl))
          try simp only [Act.put, List.setIfInBounds_toArray, List.set_cons_zero, List.set_cons_succ]
          refine held_take (i := 2) (d := 64) (v := ?_) rfl rfl (by kernel_rfl) (by kernel_rfl) (by kernel_rfl) (fun _ _ _ h => h) (Or.inl ⟨by rfl, ?_⟩) hHeld ?_
          rotate_left
          · (intro w hSw; (try dsimp only at hSw); go_simp; all_goals (with_reducible rfl))
          try simp only [Act.put, List.setIfInBounds_toArray, List.set_cons_zero, List.set_cons_succ]
          refine held_take (i := 4) (d := 66) (v := ?_) rfl rfl (by kernel_rfl) (by kernel_rfl) (by kernel_rfl) (fun _ _ _ h => h) (Or.inl ⟨by rfl, ?_⟩) hHeld ?_
          rotate_left
          · (intro w hSw; (try dsimp only at hSw); go_simp; all_goals (with_reducible rfl))
          try simp only [Act.put, List.setIfInBounds_toArray, List.set_cons_zero, List.set_cons_succ]
          refine held_take (i := 5) (d := 67) (v := ?_) rfl rfl (by kernel_rfl) (by kernel_rfl) (by kernel_rfl) (fun _ _ _ h => h) (Or.inl ⟨by rfl, ?_⟩) hHeld ?_
          rotate_left
          · (intro w hSw; (try dsimp only at hSw); go_simp; all_goals (with_reducible rfl))
          try simp only [Act.put, List.setIfInBounds_toArray, List.set_cons_zero, List.set_cons_succ]
          refine held_take (i := 6) (d := 68) (v := ?_) rfl rfl (by kernel_rfl) (by kernel_rfl) (by kernel_rfl) (fun _ _ _ h => h) (Or.inl ⟨by rfl, ?_⟩) hHeld ?_
          rotate_left
          · (intro w hSw; (try dsimp only at hSw); go_simp; all_goals (with_reducible rfl))
          try simp only [Act.put, List.setIfInBounds_toArray, List.set_cons_zero, List.set_cons_succ]
          refine held_take (i := 7) (d := 69) (v := ?_) rfl rfl (by kernel_rfl) (by kernel_rfl) (by kernel_rfl) (fun _ _ _ h => h) (Or.inl ⟨by rfl, ?_⟩) hHeld ?_
          rotate_left
          · (intro w hSw; (try dsimp only at hSw); go_simp; all_goals (with_reducible rfl))
          try simp only [Act.put, List.setIfInBounds_toArray, List.set_cons_zero, List.set_cons_succ]
          refine held_take (i := 8) (d := 70) (v := ?_) rfl rfl (by kernel_rfl) (by kernel_rfl) (by kernel_rfl) (fun _ _ _ h => h) (Or.inl ⟨by rfl, ?_⟩) hHeld ?_
          rotate_left
          · (intro w hSw; (try dsimp only at hSw); go_simp; all_goals (with_reducible rfl))
          try simp only [Act.put, List.setIfInBounds_toArray, List.set_cons_zero, List.set_cons_succ]
          refine held_take (i := 9) (d := 71) (v := ?_) rfl rfl (by kernel_rfl) (by kernel_rfl) (by kernel_rfl) (fun _ _ _ h => h) (Or.inl ⟨by rfl, ?_⟩) hHeld ?_
          rotate_left
          · (intro w hSw; (try dsimp only at hSw); go_simp; all_goals (with_reducible rfl))
          try simp only [Act.put, List.setIfInBounds_toArray, List.set_cons_zero, List.set_cons_succ]
          refine held_take (i := 10) (d := 72) (v := ?_) rfl rfl (by kernel_rfl) (by kernel_rfl) (by kernel_rfl) (fun _ _ _ h => h) (Or.inl ⟨by rfl, ?_⟩) hHeld ?_
          rotate_left
          · (intro w hSw; (try dsimp only at hSw); go_simp; all_goals (with_reducible rfl))
          try simp only [Act.put, List.setIfInBounds_toArray, List.set_cons_zero, List.set_cons_succ]
          refine held_take (i := 11) (d := 73) (v := ?_) rfl rfl (by kernel_rfl) (by kernel_rfl) (by kernel_rfl) (fun _ _ _ h => h) (Or.inl ⟨by rfl, ?_⟩) hHeld ?_
          rotate_left
          · (intro w hSw; (try dsimp only at hSw); go_simp; all_goals (with_reducible rfl))
          try simp only [Act.put, List.setIfInBounds_toArray, List.set_cons_zero, List.set_cons_succ]
          refine held_take (i := 12) (d := 74) (v := ?_) rfl rfl (by kernel_rfl) (by kernel_rfl) (by kernel_rfl) (fun _ _ _ h => h) (Or.inl ⟨by rfl, ?_⟩) hHeld ?_
          rotate_left
          · (intro w hSw; (try dsimp only at hSw); go_simp; all_goals (with_reducible rfl))
          try simp only [Act.put, List.setIfInBounds_toArray, List.set_cons_zero, List.set_cons_succ]
          refine wpAnyH_ready (rs := [3]) (by kernel_rfl) (by simp) ?_
          refine AllReadyH.cons rfl (fun K hK => ?_) AllReadyH.nil
          go_simp
          refine HNUM.out.mono ?_
          rintro e z2 ⟨rfl, hb2⟩
          have y0 : z2.cell? ⟨pv, 0, none⟩ = some (.string (rkey L k2)) := cell_later hb2 (show z1.drew.cell? _ = _ from x0)
          have y1 : z2.cell? ⟨pv, 1, none⟩ = some (.slice (some ⟨vb, vo, none⟩) (j + 1) uc) := cell_later hb2 (show z1.drew.cell? _ = _ from x1)
          have y2 : z2.cell? ⟨vb, vo + j * 4 + 1, none⟩ = some (.int .u64 num) := cell_later hb2 (show z1.drew.cell? _ = _ from q1)
          have HV10 : Hid (Below w7.heap.size w7 z2) := HV9.out.drew.trans (hb2.mono HV9.out.drew.size)
          have HO10 : Hid (OwnV z2 w7.heap.size 9 v2 (xs ++ [.string (rkey L k2)])) := (show OwnV z1.drew _ _ _ _ from HO9.out).later hb2
          clear hb2 x0 x1 q1 HO9 HV9 HX9
          go_wp2_with fail
          refine hK.out _ _ ?_ (fun hHeld => ?_)
          · exact ⟨y0, y1, y2⟩
          clear hK K
          try simp only [Act.put, List.setIfInBounds_toArray, List.set_cons_zero, List.set_cons_succ]
          refine held_take (i := 13) (d := 75) (v := ?_) rfl rfl (by kernel_rfl) (by kernel_rfl) (by kernel_rfl) (fun _ _ _ h => h) (Or.inl ⟨by rfl, ?_⟩) hHeld ?_
          rotate_left
          · (intro w hSw; (try dsimp only at hSw); go_simp; all_goals (with_reducible rfl))
          try simp only [Act.put, List.setIfInBounds_toArray, List.set_cons_zero, List.set_cons_succ]
          refine wpAnyH_done (by kernel_rfl) ?_ _
          refine NoPanic.normal ?_
          clear y0 y1 y2
          go_wp2
          go_roundw
          case rel => exact ⟨k2 + 1, by go_num, by omega, by rw [HTK2.out]; exact HO10.out, HV10.out⟩
          case measure => simp [intOf]; omega
        · have hkk : k2 = L.length := by omega
          subst hkk
          rw [List.take_length] at HO
          have HOA : Hid (OwnV wr w7.heap.size 9 u11 ((kb L).map encStr)) := HO.out
          have HSA : Hid (St (c + 1) wr g bm gr F L) := HS7.out.later HV.out
          have HWA : Hid (Below w.heap.size w wr) := HW7.out.trans (HV.out.mono HW7.out.size)
          clear HO HV HS7 HW7 HR
          obtain ⟨n9, D9, hsp9, hn9⟩ := HSA.out.sp
          have h1 := skeys_any g bm n9 D9 F wr hsp9 (by omega)
          have hkm : ∀ b, Maps.has D9 (.string b) = true ↔ b ∈ kb L := fun b => by rw [hsp9.has', kb_mem HSA.out.sorted HSA.out.full, HSA.out.agree]
          have HKM := hid_of hkm
          clear hsp9 hkm
          go_wp2_with fail
          refine h1.mono ?_
          clear h1
          rintro e z1 ⟨kv, ss, rfl, hnd, hmem, hrow, hb⟩
          have hso := sorted_is hnd HSA.out.sorted (fun b => (hmem b).trans (HKM.out b))
          have HK1 : Hid (OwnV z1 wr.heap.size 9 kv ((kb L).map encStr)) := own_keys hrow hso
          have HOB : Hid (OwnV z1 w7.heap.size 9 u11 ((kb L).map encStr)) := HOA.out.later hb
          have HSB : Hid (St (c + 1) z1 g bm gr F L) := HSA.out.later hb
          have HWB : Hid (Below w.heap.size w z1) := HWA.out.trans (hb.mono HWA.out.size)
          clear hnd hmem hrow hb hso HKM HOA HSA HWA
          have h1 := keysame_any _ _ kv u11 (kb L) z1 HK1.out HOB.out
          go_wp2_with fail
          refine h1.mono ?_
          clear h1
          rintro e z2 ⟨rfl, hb⟩
          have HSC : Hid (St (c + 1) z2 g bm gr F L) := HSB.out.later hb
          have HWC : Hid (Below w.heap.size w z2) := HWB.out.trans (hb.mono HWB.out.size)
          clear hb HSB HWB HK1 HOB
          obtain ⟨n9, D9, hsp9, hn9⟩ := HSC.out.sp
          have h1 := sdirty_any g bm n9 D9 F a2 z2 hsp9 (by omega)
          have hkm : ∀ b, (Maps.has D9 (.string b) = true ∧ dirtyAt F a2 b = true) ↔ b ∈ kb (L.filter (dirtyR a2)) := fun b => by rw [hsp9.has', dirty_mem HSC.out.sorted HSC.out.full HSC.out.agree]
          have HKM := hid_of hkm
          clear hsp9 hkm
          go_wp2_with fail
          refine h1.mono ?_
          clear h1
          rintro e z3 ⟨dv, ks, rfl, hrow, hnd, hmem, hb⟩
          have hso := sorted_is hnd (srt_filter HSC.out.sorted (dirtyR a2)) (fun b => (hmem b).trans (HKM.out b))
          have HK1 : Hid (OwnV z3 z2.heap.size 9 dv ((kb (L.filter (dirtyR a2))).map encStr)) := own_keys hrow hso
          have HSD : Hid (St (c + 1) z3 g bm gr F L) := HSC.out.later hb
          have HWD : Hid (Below w.heap.size w z3) := HWC.out.trans (hb.mono HWC.out.size)
          clear hnd hmem hrow hb hso HKM HSC HWC
          have h1 := rdirty_any gr L a2 z3 HSD.out.rs (HSD.out.rows hc999)
          go_wp2_with fail
          refine h1.mono ?_
          clear h1
          rintro e z4 ⟨rv, rfl, hrv, hb⟩
          have HK2 : Hid (OwnV z4 z3.heap.size 9 rv ((kb (L.filter (dirtyR a2))).map encStr)) := hrv
          have HK1' : Hid (OwnV z4 z2.heap.size 9 dv ((kb (L.filter (dirtyR a2))).map encStr)) := HK1.out.later hb
          have HSE : Hid (St (c + 1) z4 g bm gr F L) := HSD.out.later hb
          have HWE : Hid (Below w.heap.size w z4) := HWD.out.trans (hb.mono HWD.out.size)
          clear hb hrv HK1 HSD HWD
          have h1 := keysame_any _ _ dv rv (kb (L.filter (dirtyR a2))) z4 HK1'.out HK2.out
          go_wp2_with fail
          refine h1.mono ?_
          clear h1
          rintro e z5 ⟨rfl, hb⟩
          have HSF : Hid (∃ F L, St (c + 1) z5 g bm gr F L) := ⟨F, L, HSE.out.later hb⟩
          have HWF : Hid (Below w.heap.size w z5) := HWE.out.trans (hb.mono HWE.out.size)
          clear hb HK2 HK1' HSE HWE
          go_wp2
          go_roundw
          case rel => exact ⟨k + 1, c + 1, by go_num, by omega, by omega, by omega, HSF, HWF⟩
          case measure => simp [intOf]; omega
    · go_wp2_with fail
      refine (awake10_any wr).mono ?_
      rintro e w5 ⟨rfl, hb⟩
      have HBF : Hid (Below w.heap.size w w5) := HW.out.trans (hb.mono HW.out.size)
      clear hb
      go_wp2
      go_ret
      exact ⟨rfl, HBF.out⟩

/-! From the call to the statement. -/
set_option maxRecDepth 100000 in
theorem lifted (os : Os) (started : os.Started) (H : Type) (enc : TypeId × Value → H) :
    ReturnsInHanded {} Try.checked os 7 .any (Rows.spacePlaysSpec.pre6 enc Try.prog Try.f7 Rows.spacePlaysRow.domain false) (Rows.spacePlaysSpec.post enc Try.prog Try.f7 false true false false) := by
  refine returnsInHanded_of_change (C := Try.checked) own started (by kernel_rfl) Try.func7
    (ChangeSpec.witness6 (enc := enc) (C := Try.checked) false ⟨#[], #[.slice none 0 0, .string ByteArray.empty, .int .i64 0], []⟩ 8 (by kernel_rfl) (by kernel_rfl) (by kernel_rfl) (by kernel_rfl)) ?_
  intro W base args ds gs before hval0 hW hcnd _
  have hval : ∀ (j : Nat) t v, Try.f7.params[j]? = some t → args[j]? = some v → Value.okWide Try.prog W .any base t v := hval0
  have hW' := hW
  obtain ⟨p, q, hA0, hV, rfl, hfz, hnd⟩ := hW
  have hA : DataW.TrodAll enc Try.prog W 0 (fun _ => true) true Try.f7.params.toList args.toList ds p := hA0
  rw [Try.params7] at hA hval
  obtain ⟨v0, vs0, d0, ds0, p0, q0, hargs, rfl, rfl, h0, r0⟩ := trodAll_cons hA
  obtain ⟨v1, vs1, d1, ds1, p1, q1, rfl, rfl, rfl, h1, r1⟩ := trodAll_cons r0
  obtain ⟨v2, vs2, d2, ds2, p2, q2, rfl, rfl, rfl, h2, r2⟩ := trodAll_cons r1
  obtain ⟨rfl, rfl, rfl⟩ := trodAll_nil r2
  obtain rfl : args = #[v0, v1, v2] := by cases args; simp_all
  obtain ⟨rfl, rfl⟩ := trodVars_none hV
  obtain ⟨a0, len0, cap0, rfl⟩ := okWide_slice Try.underlying53 (hval 0 53 v0 rfl rfl)
  have k0 := h0
  have lt0 : ∀ x ∈ p0, x.block < W.heap.size := by obtain ⟨m, hm⟩ := k0; exact DataW.trod_lt m _ _ _ hm
  obtain ⟨O0, w0⟩ := open_sops h0
  obtain ⟨a1, rfl, rfl, rfl, w1⟩ := open_string Try.underlying9 (hval 1 9 v1 rfl rfl) h1
  obtain ⟨a2, rfl, rfl, rfl, w2⟩ := open_int Try.underlying3 (hval 2 3 v2 rfl rfl) h2
  clear hA0 hval0
  refine (walk a0 len0 cap0 O0 a1 a2 W w0 w1 w2).mono fun e W' ⟨he, bel⟩ => ?_
  subst he
  exact ⟨_, rfl, _, _, _, [], _, [], hW', trodAll_mk1 (shut_bool Try.underlying4 _), (trodAll_cons_mk (Below.trod laidOut (by kernel_rfl) (of_decide_eq_true (by kernel_rfl)) k0 bel lt0) (trodAll_cons_mk (shut_string Try.underlying9 w1) (trodAll_cons_mk (shut_int Try.underlying3 w2) trodAll_mk0))), rfl, bel.frame _, fun h => by cases h⟩

theorem over : Rows.spacePlaysRow.holds Try.pinned (OpenSpec.ofChange Rows.spacePlaysSpec) :=
  OpenClaim.holds_of_wide 7 Try.f7 rfl rfl rfl rfl rfl rfl rfl ⟨rfl, rfl, rfl, rfl, rfl⟩ rfl rfl rfl rfl rfl (by kernel_rfl) Try.func7 (by kernel_rfl)
    (of_decide_eq_true (by kernel_rfl)) (by unfold Func.isWrapper; first | (rw [if_pos (by decide +kernel)]; kernel_rfl) | (rw [if_neg (by decide +kernel)]; exact ⟨rfl, rfl⟩))
    (fun os started H enc _ => lifted os started H enc)
end Go.Proofs.Ytmahigfamgbhfaa.spacePlays
namespace Go.Proofs.Ytmahigfamgbhfaa
theorem spacePlays_holds : Rows.SpacePlaysSaid := spacePlays.over
#print axioms spacePlays_holds
end Go.Proofs.Ytmahigfamgbhfaa
