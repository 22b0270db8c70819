/-
  ConfBytes (P16.3): for every configuration and every row of bytes of Go's domain the law of chapter 16 on a configuration's bytes answers true: conf.Put writes just the document's bytes behind what came in, or nothing where the configuration is not right, conf.Read reads them as the configuration, and what is read of any bytes is right and just its own bytes. Conditions: those of the given statement alone.
-/
import Derived.Test.YtgpjplpfjghcgaaRows
import Derived.Test.YtgpjplpfjghcgaaCpL
import Derived.Test.YtgpjplpfjghcgaaCpJ
import Derived.Test.YtgpjplpfjghcgaaCoQ
import Derived.Test.YtgpjplpfjghcgaaCoG
import Derived.Test.YtgpjplpfjghcgaaCpE
import Derived.Test.YtgpjplpfjghcgaaCpB
import Derived.Test.YtgpjplpfjghcgaaCoS
import Derived.WalkKit
import Derived.ProofKit
import Derived.OpenShut
import Derived.ShutString
import Derived.ChangeOld
import Derived.Below
namespace Go.Proofs.Ytgpjplpfjghcgaa.confBytes
open Go.ChangeShapes Go.WideShapes Go.ChangeAt Go.RowKit
open Go.ChangeMaps (open_string shut_string)
set_option linter.unusedSimpArgs false
set_option linter.unusedVariables false

theorem own : ownKnob Try.prog.godebug = none := by kernel_rfl
theorem laidOut : laidOutB Try.prog = true := by kernel_rfl

/-! The law returns true, and writes nothing that was there. -/
set_option maxRecDepth 100000 in
set_option maxHeartbeats 16000000 in
theorem walk (i0 : In) (a1 : Option Addr) (len1 cap1 : Nat) (z1 : List Int) (w : World) (w0 : i0.ok w) (w1 : IsRow .u8 w a1 len1 cap1 z1) :
    Calls Try.prog 6 #[inv i0, .slice a1 len1 cap1] w fun e w' => e = .returned (.bool true) ∧ Below w.heap.size w w' := by
  obtain ⟨ep, sh, a, n, c, M, le⟩ := i0
  have HM : Hid (Mems w a n M) := w0.mems
  have hep : ep < 18446744073709551616 := w0.ep
  have f1 := w1.facts
  clear w0
  have HAB : Hid (∀ n, n ≤ len1 → 0 < n → ∀ x, a1 = some x → x.block < w.heap.size) := fun n hn h0 x hx => by
    obtain ⟨b, off, hb, hcc⟩ := (w1.row n hn).at h0
    rw [hx] at hb
    simp only [Option.some.injEq] at hb
    subst hb
    exact World.block_lt_of_cell? _ _ (hcc 0 h0)
  by_cases hl : len1 ≤ 60
  · have HRB : Hid (Row w a1 len1 (firsts z1 len1)) := w1.row len1 (Nat.le_refl _)
    generalize firsts z1 len1 = bs at HRB
    have HMC : Hid (len1 ≤ cap1) := f1.1
    clear w1
    have hb0 : Below w.heap.size w (w.alloc (.cells #[.int .u64 (ep : Nat), .int .i64 sh, .slice a n c, .int .i64 le] 25)) := (Below.refl _ _).alloc (Nat.le_refl _) _
    have hcall := ours_any ep sh le a n c M _ (HM.out.later hb0)
    go_enter Try.func6, Try.ntmps6
    go_wp2_with fail
    generalize w.alloc (.cells #[.int .u64 (ep : Nat), .int .i64 sh, .slice a n c, .int .i64 le] 25) = w0 at *
    refine hcall.mono ?_
    clear hcall
    rintro e w1 ⟨⟨v1, rfl, hv1⟩, hb1⟩
    have HLE : (inC ep sh n M le).l.length ≤ 10 := by simp [inC, fewM_length]; omega
    have HEP : (inC ep sh n M le).ep < 18446744073709551616 := hep
    clear hep
    generalize inC ep sh n M le = cc at hv1 HLE HEP
    obtain ⟨ep', sh', l, le'⟩ := cc
    simp only at HLE HEP
    obtain ⟨a1', c1', b1', d1', rfl, hA, hB, -⟩ := hv1.read
    simp only at hA hB
    have HC1 : Cfr w1 (.agg (carr ep' sh' (.slice a1' l.length c1') (.slice b1' l.length d1') le')) ⟨ep', sh', l, le'⟩ := ⟨_, _, _, _, rfl, hA, hB, by show l.length ≤ 100000; omega⟩
    clear hA hB hv1
    generalize hn' : l.length = n' at *
    have HLN : Hid (l.length = n') := hn'
    clear hn'
    have hb2 : Below w1.heap.size w1 (w1.alloc (.cells (carr ep' sh' (.slice a1' n' c1') (.slice b1' n' d1') le') 29)) := (Below.refl _ _).alloc (Nat.le_refl _) _
    have ho2 := heap_alloc_new w1 (.cells (carr ep' sh' (.slice a1' n' c1') (.slice b1' n' d1') le') 29)
    go_upto_region 4 with fail
    generalize w1.alloc (.cells (carr ep' sh' (.slice a1' n' c1') (.slice b1' n' d1') le') 29) = w2 at *
    have HO2 : Hid (w2.heap[w1.heap.size]? = some (.cells (carr ep' sh' (.slice a1' n' c1') (.slice b1' n' d1') le') 29)) := ho2
    have HC2 : Hid (Cfr w2 (.agg (carr ep' sh' (.slice a1' n' c1') (.slice b1' n' d1') le')) ⟨ep', sh', l, le'⟩) := HC1.later hb2
    have HB2 : Hid (Below w.heap.size w w2) := hb0.trans ((hb1.mono hb0.size).trans (hb2.mono (by have := hb1.size; have := hb0.size; omega)))
    have HP5 : Hid (w.heap.size ≤ w1.heap.size) := by have := hb1.size; have := hb0.size; show _ ≤ _; omega
    clear hb0 hb1 hb2 ho2 HC1
    generalize w1.heap.size = p5 at *
    obtain ⟨x0, x1, x2, x3, x4⟩ := five_cells HO2.out
    have hcall := plain_any _ _ _ HC2.out (by show l.length ≤ 900; rw [HLN.out]; omega)
    go_wp2_with fail
    refine hcall.mono ?_
    clear hcall x0 x1 x2 x3 x4
    rintro e w3 ⟨⟨v3, rfl, hv3⟩, hb3⟩
    obtain ⟨a3, c3, rfl, hL3, -⟩ := hv3.read
    simp only at hL3
    rw [HLN.out]
    have hr3 : Rfr w3 (.agg (rarr ep' sh' (.slice a3 n' c3) le')) ⟨ep', sh', l, le'⟩ := ⟨a3, c3, by rw [HLN.out], hL3, by show l.length ≤ 100000; rw [HLN.out]; omega⟩
    have hb4 : Below w3.heap.size w3 (w3.alloc (.cells (rarr ep' sh' (.slice a3 n' c3) le') 25)) := (Below.refl _ _).alloc (Nat.le_refl _) _
    have hw4 := heap_alloc_new w3 (.cells (rarr ep' sh' (.slice a3 n' c3) le') 25)
    go_upto_region 5 with fail
    generalize w3.alloc (.cells (rarr ep' sh' (.slice a3 n' c3) le') 25) = w4 at *
    have hb24 : Below w2.heap.size w2 w4 := hb3.trans (hb4.mono hb3.size)
    have HO4 : Hid (w4.heap[p5]? = some (.cells (carr ep' sh' (.slice a1' n' c1') (.slice b1' n' d1') le') 29)) := heap_kept HO2.out hb24
    have HW4 : Hid (w4.heap[w3.heap.size]? = some (.cells (rarr ep' sh' (.slice a3 n' c3) le') 25)) := hw4
    have HC4 : Hid (Cfr w4 (.agg (carr ep' sh' (.slice a1' n' c1') (.slice b1' n' d1') le')) ⟨ep', sh', l, le'⟩) := HC2.out.later hb24
    have HR4 : Hid (Rfr w4 (.agg (rarr ep' sh' (.slice a3 n' c3) le')) ⟨ep', sh', l, le'⟩) := hr3.later hb4
    have HB4 : Hid (Below w.heap.size w w4) := HB2.out.trans (hb24.mono HB2.out.size)
    have HP6 : Hid (w.heap.size ≤ w3.heap.size) := HB2.out.trans (hb3.mono HB2.out.size) |>.size
    clear hb3 hb4 hw4 hb24 hr3 hL3 hv3 HO2 HC2 HB2
    generalize w3.heap.size = p6 at *
    obtain ⟨S, hS⟩ : ∃ S, S = bs ++ if rightB ⟨ep', sh', l, le'⟩ then bytesC ⟨ep', sh', l, le'⟩ else [] := ⟨_, rfl⟩
    have HSE : Hid (S = bs ++ if rightB ⟨ep', sh', l, le'⟩ then bytesC ⟨ep', sh', l, le'⟩ else []) := hS
    have hcall := put_conf a1 len1 cap1 bs _ _ w4 (HRB.out.later HB4.out) f1.2.2 (by omega) HC4.out HEP
    rw [← hS] at hcall
    clear hS
    obtain ⟨x0, x1, x2, x3, x4⟩ := five_cells HO4.out
    go_wp2_with fail
    refine hcall.mono ?_
    clear hcall x0 x1 x2 x3 x4
    rintro e w5 ⟨⟨v5, rfl, hv5⟩, hb5⟩
    obtain ⟨aS, ns, cs, rfl⟩ : ∃ a n c, v5 = .slice a n c := by obtain ⟨a, n, c, e, -⟩ := hv5.slice; exact ⟨_, _, _, e⟩
    have HV5 : Hid (Own w5 w.heap.size (.slice aS ns cs) S) := hv5.mono HB4.out.size
    clear hv5
    have HO5 : Hid (w5.heap[p5]? = some (.cells (carr ep' sh' (.slice a1' n' c1') (.slice b1' n' d1') le') 29)) := heap_kept HO4.out hb5
    have HW5 : Hid (w5.heap[p6]? = some (.cells (rarr ep' sh' (.slice a3 n' c3) le') 25)) := heap_kept HW4.out hb5
    have HC5 : Hid (Cfr w5 (.agg (carr ep' sh' (.slice a1' n' c1') (.slice b1' n' d1') le')) ⟨ep', sh', l, le'⟩) := HC4.out.later hb5
    have HR5 : Hid (Rfr w5 (.agg (rarr ep' sh' (.slice a3 n' c3) le')) ⟨ep', sh', l, le'⟩) := HR4.out.later hb5
    have HB5 : Hid (Below w.heap.size w w5) := HB4.out.trans (hb5.mono HB4.out.size)
    clear hb5 HO4 HW4 HC4 HR4 HB4
    have hcall := new_any a1 len1 cap1 bs w5 (HRB.out.later HB5.out) f1.2.2 (by omega)
    go_wp2_with fail
    refine hcall.mono ?_
    clear hcall
    rintro e w6 ⟨g6, rfl, hrd6, hg6, hb6⟩
    have HG6 : Hid (w5.heap.size ≤ g6) := hg6
    have HGL : Hid (g6 < w6.heap.size) := hrd6.lt
    have HB56 : Hid (Below w5.heap.size w5 w6) := hb6
    have HS6 : Hid (w5.heap.size ≤ w6.heap.size) := hb6.size
    clear hg6 hb6
    cases hok : readOk (some bs) with
    | false =>
      have hq := read_no g6 bs w6 hrd6 hok
      clear hrd6 hok
      obtain ⟨zc, hzc⟩ : ∃ zc, zc = zeroC := ⟨_, rfl⟩
      rw [← hzc] at hq
      have HZC : Hid (zc = zeroC) := hzc
      clear hzc
      obtain ⟨epd, shd, ld, led⟩ := zc
      have hcall := hq
      go_wp2_with fail
      refine hcall.mono ?_
      clear hcall
      rintro e w7 ⟨⟨v7, rfl, hv7⟩, ho7⟩
      have hb67 : Below w5.heap.size w5 w7 := HB56.out.trans (ho7.below HG6.out HS6.out)
      have HO7 : Hid (w7.heap[p5]? = some (.cells (carr ep' sh' (.slice a1' n' c1') (.slice b1' n' d1') le') 29)) := heap_kept HO5.out hb67
      have HW7 : Hid (w7.heap[p6]? = some (.cells (rarr ep' sh' (.slice a3 n' c3) le') 25)) := heap_kept HW5.out hb67
      have HC7 : Hid (Cfr w7 (.agg (carr ep' sh' (.slice a1' n' c1') (.slice b1' n' d1') le')) ⟨ep', sh', l, le'⟩) := HC5.out.later hb67
      have HR7 : Hid (Rfr w7 (.agg (rarr ep' sh' (.slice a3 n' c3) le')) ⟨ep', sh', l, le'⟩) := HR5.out.later hb67
      have HB7 : Hid (Below w.heap.size w w7) := HB5.out.trans (hb67.mono HB5.out.size)
      have HV7 : Hid (Own w7 w.heap.size (.slice aS ns cs) S) := HV5.out.later hb67
      clear hq
      have HS7 : Hid (g6 < w7.heap.size) := Nat.lt_of_lt_of_le HGL.out ho7.size
      clear hb67 ho7 HB56 HV5 HO5 HW5 HC5 HR5 HB5
      obtain ⟨ad, cd, bd, dd', rfl, hA, hB, hld⟩ := hv7.read
      simp only at hA hB hld
      have hC7 : Cfr w7 (.agg (carr epd shd (.slice ad ld.length cd) (.slice bd ld.length dd') led)) ⟨epd, shd, ld, led⟩ := ⟨_, _, _, _, rfl, hA, hB, by show ld.length ≤ 100000; exact hld⟩
      clear hA hB hld hv7
      generalize hnd : ld.length = nd at *
      have HLD : Hid (ld.length = nd) := hnd
      clear hnd
      have hb8 : Below w7.heap.size w7 (w7.alloc (.cells (carr epd shd (.slice ad nd cd) (.slice bd nd dd') led) 29)) := (Below.refl _ _).alloc (Nat.le_refl _) _
      have ho8 := heap_alloc_new w7 (.cells (carr epd shd (.slice ad nd cd) (.slice bd nd dd') led) 29)
      go_upto_region 8 with fail
      generalize w7.alloc (.cells (carr epd shd (.slice ad nd cd) (.slice bd nd dd') led) 29) = w8 at *
      have HO8 : Hid (w8.heap[p5]? = some (.cells (carr ep' sh' (.slice a1' n' c1') (.slice b1' n' d1') le') 29)) := heap_kept HO7.out hb8
      have HW8 : Hid (w8.heap[p6]? = some (.cells (rarr ep' sh' (.slice a3 n' c3) le') 25)) := heap_kept HW7.out hb8
      have HC8 : Hid (Cfr w8 (.agg (carr ep' sh' (.slice a1' n' c1') (.slice b1' n' d1') le')) ⟨ep', sh', l, le'⟩) := HC7.out.later hb8
      have HR8 : Hid (Rfr w8 (.agg (rarr ep' sh' (.slice a3 n' c3) le')) ⟨ep', sh', l, le'⟩) := HR7.out.later hb8
      have HB8 : Hid (Below w.heap.size w w8) := HB7.out.trans (hb8.mono HB7.out.size)
      have HV8 : Hid (Own w8 w.heap.size (.slice aS ns cs) S) := HV7.out.later hb8
      have HD8 : Hid (w8.heap[w7.heap.size]? = some (.cells (carr epd shd (.slice ad nd cd) (.slice bd nd dd') led) 29)) := ho8
      have HCD8 : Hid (Cfr w8 (.agg (carr epd shd (.slice ad nd cd) (.slice bd nd dd') led)) ⟨epd, shd, ld, led⟩) := hC7.later hb8
      
      clear hb8 ho8 hC7 HV7 HO7 HW7 HC7 HR7 HB7
      generalize w7.heap.size = p9 at *
      obtain ⟨x0, x1, x2, x3, x4⟩ := five_cells HD8.out
      have HS : Hid (∀ w', Below w8.heap.size w8 w' → Below w8.heap.size w8 w' ∧ w'.cell? ⟨p9, 0, none⟩ = some (.int .u64 (epd : Nat)) ∧ w'.cell? ⟨p9, 1, none⟩ = some (.int .i64 shd) ∧ w'.cell? ⟨p9, 2, none⟩ = some (.slice ad nd cd) ∧ w'.cell? ⟨p9, 3, none⟩ = some (.slice bd nd dd') ∧ w'.cell? ⟨p9, 4, none⟩ = some (.int .i64 led)) := fun w' hb => ⟨hb, cell_later hb x0, cell_later hb x1, cell_later hb x2, cell_later hb x3, cell_later hb x4⟩
      clear x0 x1 x2 x3 x4
      have hd0 : Below w8.heap.size w8 w8.drew := (Below.refl _ _).drew
      refine wp_region_noPanic ?_
      refine wp_region_held_drew (S := (fun w' => Below w8.heap.size w8 w' ∧ w'.cell? ⟨p9, 0, none⟩ = some (.int .u64 (epd : Nat)) ∧ w'.cell? ⟨p9, 1, none⟩ = some (.int .i64 shd) ∧ w'.cell? ⟨p9, 2, none⟩ = some (.slice ad nd cd) ∧ w'.cell? ⟨p9, 3, none⟩ = some (.slice bd nd dd') ∧ w'.cell? ⟨p9, 4, none⟩ = some (.int .i64 led))) (by kernel_rfl) ?_ (fun hHeld => ?_)
      · exact HS.out _ hd0
      refine held_take (i := 0) (d := 33) (v := ?_) rfl rfl (by kernel_rfl) (by kernel_rfl) (by kernel_rfl) (fun _ _ _ h => h) (Or.inl ⟨by rfl, ?_⟩) hHeld ?_
      rotate_left
      · (intro w hSw; (try dsimp only at hSw); go_simp; all_goals (with_reducible rfl))
      try simp only [Act.put, List.setIfInBounds_toArray, List.set_cons_zero, List.set_cons_succ]
      refine held_take (i := 1) (d := 34) (v := ?_) rfl rfl (by kernel_rfl) (by kernel_rfl) (by kernel_rfl) (fun _ _ _ h => h) (Or.inl ⟨by rfl, ?_⟩) hHeld ?_
      rotate_left
      · (intro w hSw; (try dsimp only at hSw); go_simp; all_goals (with_reducible rfl))
      try simp only [Act.put, List.setIfInBounds_toArray, List.set_cons_zero, List.set_cons_succ]
      refine held_take (i := 2) (d := 35) (v := undef) rfl rfl (by kernel_rfl) (by kernel_rfl) (by kernel_rfl) (fun _ _ _ h => h) (Or.inr ⟨by rfl, rfl⟩) hHeld ?_
      try simp only [Act.put, List.setIfInBounds_toArray, List.set_cons_zero, List.set_cons_succ]
      refine held_take (i := 3) (d := 36) (v := undef) rfl rfl (by kernel_rfl) (by kernel_rfl) (by kernel_rfl) (fun _ _ _ h => h) (Or.inr ⟨by rfl, rfl⟩) hHeld ?_
      try simp only [Act.put, List.setIfInBounds_toArray, List.set_cons_zero, List.set_cons_succ]
      refine held_take (i := 4) (d := 37) (v := undef) rfl rfl (by kernel_rfl) (by kernel_rfl) (by kernel_rfl) (fun _ _ _ h => h) (Or.inr ⟨by rfl, rfl⟩) hHeld ?_
      try simp only [Act.put, List.setIfInBounds_toArray, List.set_cons_zero, List.set_cons_succ]
      refine held_take (i := 5) (d := 38) (v := undef) rfl rfl (by kernel_rfl) (by kernel_rfl) (by kernel_rfl) (fun _ _ _ h => h) (Or.inr ⟨by rfl, rfl⟩) hHeld ?_
      try simp only [Act.put, List.setIfInBounds_toArray, List.set_cons_zero, List.set_cons_succ]
      refine held_take (i := 6) (d := 39) (v := undef) rfl rfl (by kernel_rfl) (by kernel_rfl) (by kernel_rfl) (fun _ _ _ h => h) (Or.inr ⟨by rfl, rfl⟩) hHeld ?_
      try simp only [Act.put, List.setIfInBounds_toArray, List.set_cons_zero, List.set_cons_succ]
      refine held_take (i := 7) (d := 40) (v := undef) rfl rfl (by kernel_rfl) (by kernel_rfl) (by kernel_rfl) (fun _ _ _ h => h) (Or.inr ⟨by rfl, rfl⟩) hHeld ?_
      try simp only [Act.put, List.setIfInBounds_toArray, List.set_cons_zero, List.set_cons_succ]
      refine held_take (i := 8) (d := 41) (v := undef) rfl rfl (by kernel_rfl) (by kernel_rfl) (by kernel_rfl) (fun _ _ _ h => h) (Or.inr ⟨by rfl, rfl⟩) hHeld ?_
      try simp only [Act.put, List.setIfInBounds_toArray, List.set_cons_zero, List.set_cons_succ]
      refine held_take (i := 9) (d := 42) (v := undef) rfl rfl (by kernel_rfl) (by kernel_rfl) (by kernel_rfl) (fun _ _ _ h => h) (Or.inr ⟨by rfl, rfl⟩) hHeld ?_
      try simp only [Act.put, List.setIfInBounds_toArray, List.set_cons_zero, List.set_cons_succ]
      refine held_take (i := 10) (d := 43) (v := undef) rfl rfl (by kernel_rfl) (by kernel_rfl) (by kernel_rfl) (fun _ _ _ h => h) (Or.inr ⟨by rfl, rfl⟩) hHeld ?_
      try simp only [Act.put, List.setIfInBounds_toArray, List.set_cons_zero, List.set_cons_succ]
      refine held_take (i := 11) (d := 44) (v := undef) rfl rfl (by kernel_rfl) (by kernel_rfl) (by kernel_rfl) (fun _ _ _ h => h) (Or.inr ⟨by rfl, rfl⟩) hHeld ?_
      try simp only [Act.put, List.setIfInBounds_toArray, List.set_cons_zero, List.set_cons_succ]
      refine held_take (i := 12) (d := 45) (v := undef) rfl rfl (by kernel_rfl) (by kernel_rfl) (by kernel_rfl) (fun _ _ _ h => h) (Or.inr ⟨by rfl, rfl⟩) hHeld ?_
      try simp only [Act.put, List.setIfInBounds_toArray, List.set_cons_zero, List.set_cons_succ]
      refine held_take (i := 13) (d := 46) (v := undef) rfl rfl (by kernel_rfl) (by kernel_rfl) (by kernel_rfl) (fun _ _ _ h => h) (Or.inr ⟨by rfl, rfl⟩) hHeld ?_
      try simp only [Act.put, List.setIfInBounds_toArray, List.set_cons_zero, List.set_cons_succ]
      refine held_take (i := 14) (d := 47) (v := undef) rfl rfl (by kernel_rfl) (by kernel_rfl) (by kernel_rfl) (fun _ _ _ h => h) (Or.inr ⟨by rfl, rfl⟩) hHeld ?_
      try simp only [Act.put, List.setIfInBounds_toArray, List.set_cons_zero, List.set_cons_succ]
      refine held_take (i := 15) (d := 48) (v := undef) rfl rfl (by kernel_rfl) (by kernel_rfl) (by kernel_rfl) (fun _ _ _ h => h) (Or.inr ⟨by rfl, rfl⟩) hHeld ?_
      try simp only [Act.put, List.setIfInBounds_toArray, List.set_cons_zero, List.set_cons_succ]
      refine held_take (i := 16) (d := 49) (v := undef) rfl rfl (by kernel_rfl) (by kernel_rfl) (by kernel_rfl) (fun _ _ _ h => h) (Or.inr ⟨by rfl, rfl⟩) hHeld ?_
      try simp only [Act.put, List.setIfInBounds_toArray, List.set_cons_zero, List.set_cons_succ]
      refine held_take (i := 17) (d := 50) (v := undef) rfl rfl (by kernel_rfl) (by kernel_rfl) (by kernel_rfl) (fun _ _ _ h => h) (Or.inr ⟨by rfl, rfl⟩) hHeld ?_
      try simp only [Act.put, List.setIfInBounds_toArray, List.set_cons_zero, List.set_cons_succ]
      refine held_take (i := 18) (d := 51) (v := undef) rfl rfl (by kernel_rfl) (by kernel_rfl) (by kernel_rfl) (fun _ _ _ h => h) (Or.inr ⟨by rfl, rfl⟩) hHeld ?_
      try simp only [Act.put, List.setIfInBounds_toArray, List.set_cons_zero, List.set_cons_succ]
      refine held_take (i := 19) (d := 52) (v := undef) rfl rfl (by kernel_rfl) (by kernel_rfl) (by kernel_rfl) (fun _ _ _ h => h) (Or.inr ⟨by rfl, rfl⟩) hHeld ?_
      try simp only [Act.put, List.setIfInBounds_toArray, List.set_cons_zero, List.set_cons_succ]
      refine held_take (i := 20) (d := 53) (v := undef) rfl rfl (by kernel_rfl) (by kernel_rfl) (by kernel_rfl) (fun _ _ _ h => h) (Or.inr ⟨by rfl, rfl⟩) hHeld ?_
      try simp only [Act.put, List.setIfInBounds_toArray, List.set_cons_zero, List.set_cons_succ]
      refine held_take (i := 21) (d := 54) (v := undef) rfl rfl (by kernel_rfl) (by kernel_rfl) (by kernel_rfl) (fun _ _ _ h => h) (Or.inr ⟨by rfl, rfl⟩) hHeld ?_
      try simp only [Act.put, List.setIfInBounds_toArray, List.set_cons_zero, List.set_cons_succ]
      refine held_take (i := 22) (d := 55) (v := undef) rfl rfl (by kernel_rfl) (by kernel_rfl) (by kernel_rfl) (fun _ _ _ h => h) (Or.inr ⟨by rfl, rfl⟩) hHeld ?_
      try simp only [Act.put, List.setIfInBounds_toArray, List.set_cons_zero, List.set_cons_succ]
      refine held_take (i := 23) (d := 56) (v := ?_) rfl rfl (by kernel_rfl) (by kernel_rfl) (by kernel_rfl) (fun _ _ _ h => h) (Or.inl ⟨by rfl, ?_⟩) hHeld ?_
      rotate_left
      · (intro w hSw; (try dsimp only at hSw); go_simp; all_goals (with_reducible rfl))
      try simp only [Act.put, List.setIfInBounds_toArray, List.set_cons_zero, List.set_cons_succ]
      refine held_take (i := 24) (d := 57) (v := ?_) rfl rfl (by kernel_rfl) (by kernel_rfl) (by kernel_rfl) (fun _ _ _ h => h) (Or.inl ⟨by rfl, ?_⟩) hHeld ?_
      rotate_left
      · (intro w hSw; (try dsimp only at hSw); go_simp; all_goals (with_reducible rfl))
      try simp only [Act.put, List.setIfInBounds_toArray, List.set_cons_zero, List.set_cons_succ]
      refine held_take (i := 25) (d := 58) (v := ?_) rfl rfl (by kernel_rfl) (by kernel_rfl) (by kernel_rfl) (fun _ _ _ h => h) (Or.inl ⟨by rfl, ?_⟩) hHeld ?_
      rotate_left
      · (intro w hSw; (try dsimp only at hSw); go_simp; all_goals (with_reducible rfl))
      try simp only [Act.put, List.setIfInBounds_toArray, List.set_cons_zero, List.set_cons_succ]
      refine held_take (i := 26) (d := 59) (v := ?_) rfl rfl (by kernel_rfl) (by kernel_rfl) (by kernel_rfl) (fun _ _ _ h => h) (Or.inl ⟨by rfl, ?_⟩) hHeld ?_
      rotate_left
      · (intro w hSw; (try dsimp only at hSw); go_simp; all_goals (with_reducible rfl))
      try simp only [Act.put, List.setIfInBounds_toArray, List.set_cons_zero, List.set_cons_succ]
      refine held_take (i := 27) (d := 60) (v := ?_) rfl rfl (by kernel_rfl) (by kernel_rfl) (by kernel_rfl) (fun _ _ _ h => h) (Or.inl ⟨by rfl, ?_⟩) hHeld ?_
      rotate_left
      · (intro w hSw; (try dsimp only at hSw); go_simp; all_goals (with_reducible rfl))
      try simp only [Act.put, List.setIfInBounds_toArray, List.set_cons_zero, List.set_cons_succ]
      refine held_take (i := 28) (d := 61) (v := ?_) rfl rfl (by kernel_rfl) (by kernel_rfl) (by kernel_rfl) (fun _ _ _ h => h) (Or.inl ⟨by rfl, ?_⟩) hHeld ?_
      rotate_left
      · (intro w hSw; (try dsimp only at hSw); go_simp; all_goals (with_reducible rfl))
      try simp only [Act.put, List.setIfInBounds_toArray, List.set_cons_zero, List.set_cons_succ]
      refine held_take (i := 29) (d := 62) (v := ?_) rfl rfl (by kernel_rfl) (by kernel_rfl) (by kernel_rfl) (fun _ _ _ h => h) (Or.inl ⟨by rfl, ?_⟩) hHeld ?_
      rotate_left
      · (intro w hSw; (try dsimp only at hSw); go_simp; all_goals (with_reducible rfl))
      try simp only [Act.put, List.setIfInBounds_toArray, List.set_cons_zero, List.set_cons_succ]
      refine wpAnyH_ready (rs := [30]) (by kernel_rfl) (by simp) ?_
      refine AllReadyH.cons rfl (fun K hK => ?_) AllReadyH.nil
      go_simp
      have hq := same_any _ _ _ _ (HCD8.out.later hd0) (by rw [HZC.out]; exact zero_cfr _)
      refine hq.mono ?_
      clear hq
      rintro e u1 ⟨rfl, hu1⟩
      replace hu1 : Below w8.heap.size w8 u1 := hd0.trans hu1
      go_wp2_with fail
      refine hK.out _ _ ?_ (fun hHeld => ?_)
      · exact HS.out _ hu1
      clear hK K
      try simp only [Act.put, List.setIfInBounds_toArray, List.set_cons_zero, List.set_cons_succ]
      refine held_take (i := 31) (d := 64) (v := ?_) rfl rfl (by kernel_rfl) (by kernel_rfl) (by kernel_rfl) (fun _ _ _ h => h) (Or.inl ⟨by rfl, ?_⟩) hHeld ?_
      rotate_left
      · (intro w hSw; (try dsimp only at hSw); go_simp; all_goals (with_reducible rfl))
      try simp only [Act.put, List.setIfInBounds_toArray, List.set_cons_zero, List.set_cons_succ]
      refine held_take (i := 32) (d := 65) (v := ?_) rfl rfl (by kernel_rfl) (by kernel_rfl) (by kernel_rfl) (fun _ _ _ h => h) (Or.inl ⟨by rfl, ?_⟩) hHeld ?_
      rotate_left
      · (intro w hSw; (try dsimp only at hSw); go_simp; all_goals (with_reducible rfl))
      try simp only [Act.put, List.setIfInBounds_toArray, List.set_cons_zero, List.set_cons_succ]
      refine held_take (i := 33) (d := 66) (v := ?_) rfl rfl (by kernel_rfl) (by kernel_rfl) (by kernel_rfl) (fun _ _ _ h => h) (Or.inl ⟨by rfl, ?_⟩) hHeld ?_
      rotate_left
      · (intro w hSw; (try dsimp only at hSw); go_simp; all_goals (with_reducible rfl))
      try simp only [Act.put, List.setIfInBounds_toArray, List.set_cons_zero, List.set_cons_succ]
      refine wpAnyH_done (by kernel_rfl) ?_ _
      refine NoPanic.normal ?_
      have hb9 : Below w8.heap.size w8 u1 := hu1
      clear HS hHeld hu1 hd0
      have HO9 : Hid (u1.heap[p5]? = some (.cells (carr ep' sh' (.slice a1' n' c1') (.slice b1' n' d1') le') 29)) := heap_kept HO8.out hb9
      have HW9 : Hid (u1.heap[p6]? = some (.cells (rarr ep' sh' (.slice a3 n' c3) le') 25)) := heap_kept HW8.out hb9
      have HC9 : Hid (Cfr u1 (.agg (carr ep' sh' (.slice a1' n' c1') (.slice b1' n' d1') le')) ⟨ep', sh', l, le'⟩) := HC8.out.later hb9
      have HR9 : Hid (Rfr u1 (.agg (rarr ep' sh' (.slice a3 n' c3) le')) ⟨ep', sh', l, le'⟩) := HR8.out.later hb9
      have HB9 : Hid (Below w.heap.size w u1) := HB8.out.trans (hb9.mono HB8.out.size)
      have HV9 : Hid (Own u1 w.heap.size (.slice aS ns cs) S) := HV8.out.later hb9
      clear HV8 HO8 HW8 HC8 HR8 HB8 hb9 HCD8 HD8 HZC
      generalize u1 = w9 at *
      have hcall := rright_any _ _ _ HR9.out
      obtain ⟨y0, y1, y2, y3⟩ := four_cells HW9.out
      go_wp2_with fail
      refine hcall.mono ?_
      clear hcall y0 y1 y2 y3
      rintro e w10 ⟨rfl, hb10⟩
      have HO10 : Hid (w10.heap[p5]? = some (.cells (carr ep' sh' (.slice a1' n' c1') (.slice b1' n' d1') le') 29)) := heap_kept HO9.out hb10
      have HW10 : Hid (w10.heap[p6]? = some (.cells (rarr ep' sh' (.slice a3 n' c3) le') 25)) := heap_kept HW9.out hb10
      have HC10 : Hid (Cfr w10 (.agg (carr ep' sh' (.slice a1' n' c1') (.slice b1' n' d1') le')) ⟨ep', sh', l, le'⟩) := HC9.out.later hb10
      have HR10 : Hid (Rfr w10 (.agg (rarr ep' sh' (.slice a3 n' c3) le')) ⟨ep', sh', l, le'⟩) := HR9.out.later hb10
      have HB10 : Hid (Below w.heap.size w w10) := HB9.out.trans (hb10.mono HB9.out.size)
      have HV10 : Hid (Own w10 w.heap.size (.slice aS ns cs) S) := HV9.out.later hb10
      clear hb10 HV9 HO9 HW9 HC9 HR9 HB9
      cases hrc : rightB ⟨ep', sh', l, le'⟩ with
      | false =>
        have hSb : S = bs := by rw [HSE.out, hrc]; simp
        subst hSb
        have c1 := conv_row HV10.out.row cs
        have c2 := conv_row (HRB.out.later HB10.out) cap1
        go_wp2_with fail
        refine (awake_any _).mono ?_
        rintro e wf ⟨rfl, hbf⟩
        have HBF : Hid (Below w.heap.size w wf) := HB10.out.trans (hbf.mono HB10.out.size)
        clear hbf c1 c2
        go_wp2
        go_ret
        exact ⟨rfl, HBF.out⟩
      | true =>
        have HRC : Hid (rightB ⟨ep', sh', l, le'⟩ = true) := hrc
        have hSb : S = bs ++ bytesC ⟨ep', sh', l, le'⟩ := by rw [HSE.out, hrc]; simp
        clear hrc HSE
        subst hSb
        have hbp := bytesC_pos ⟨ep', sh', l, le'⟩
        obtain ⟨gs, ns', cs', e9, hns, -, hgs, hnc, hcm⟩ := HV10.out.form (by intro e; rw [List.append_eq_nil_iff] at e; rw [e.2] at hbp; simp at hbp)
        simp only [Value.slice.injEq] at e9
        obtain ⟨rfl, rfl, rfl⟩ := e9
        have hbm : bs.length = len1 := HRB.out.1
        rw [List.length_append, hbm] at hns
        have rd10 := HV10.out.row.drop len1 (by omega)
        rw [show List.drop len1 (bs ++ bytesC ⟨ep', sh', l, le'⟩) = bytesC ⟨ep', sh', l, le'⟩ by rw [← hbm, List.drop_left]] at rd10
        simp only [Nat.zero_add] at rd10
        have hz1 : ¬ ((len1 : Int) < 0) := by omega
        have hz2 : len1 ≤ ns := by omega
        have hz3 : ¬ cs = len1 := by omega
        have hz4 : (len1 : Int) ≤ (ns : Int) := by omega
        have HQ0 : Hid (ns = len1 + (bytesC ⟨ep', sh', l, le'⟩).length) := hns
        have hcall := new_any _ (ns - len1) (cs - len1) _ _ rd10 (by simp) (by have : (bytesC ⟨ep', sh', l, le'⟩).length ≤ 1000 := bytesC_len _ HRC.out; omega)
        clear rd10 hns hbp hcm
        go_wp2_with fail
        refine hcall.mono ?_
        clear hcall
        rintro e w11 ⟨g11, rfl, hrd, hg11, hb11⟩
        have HB1011 : Hid (Below w10.heap.size w10 w11) := hb11
        have HG11 : Hid (w10.heap.size ≤ g11) := hg11
        have HS11 : Hid (w10.heap.size ≤ w11.heap.size) := hb11.size
        have hcall := read_put g11 ⟨ep', sh', l, le'⟩ w11 hrd HRC.out HEP
        clear hb11 hg11 hrd
        go_wp2_with fail
        refine hcall.mono ?_
        clear hcall
        rintro e w12 ⟨⟨v12, rfl, hv12⟩, hrd12, ho12⟩
        have hb12 : Below w10.heap.size w10 w12 := HB1011.out.trans (ho12.below HG11.out HS11.out)
        have HO12 : Hid (w12.heap[p5]? = some (.cells (carr ep' sh' (.slice a1' n' c1') (.slice b1' n' d1') le') 29)) := heap_kept HO10.out hb12
        have HW12 : Hid (w12.heap[p6]? = some (.cells (rarr ep' sh' (.slice a3 n' c3) le') 25)) := heap_kept HW10.out hb12
        have HC12 : Hid (Cfr w12 (.agg (carr ep' sh' (.slice a1' n' c1') (.slice b1' n' d1') le')) ⟨ep', sh', l, le'⟩) := HC10.out.later hb12
        have HR12 : Hid (Rfr w12 (.agg (rarr ep' sh' (.slice a3 n' c3) le')) ⟨ep', sh', l, le'⟩) := HR10.out.later hb12
        have HB12 : Hid (Below w.heap.size w w12) := HB10.out.trans (hb12.mono HB10.out.size)
        have HV12 : Hid (Own w12 w.heap.size (.slice (some ⟨gs, 0, none⟩) ns cs) (bs ++ bytesC ⟨ep', sh', l, le'⟩)) := HV10.out.later hb12
        clear hb12 ho12 HV10 HO10 HW10 HC10 HR10 HB10 HB1011
        obtain ⟨ax, cx, bx, dx, rfl, hA, hB, hlx⟩ := hv12.read
        simp only at hA hB hlx
        have hX12 : Cfr w12 (.agg (carr ep' sh' (.slice ax l.length cx) (.slice bx l.length dx) le')) ⟨ep', sh', l, le'⟩ := ⟨_, _, _, _, rfl, hA, hB, hlx⟩
        clear hA hB hlx hv12
        rw [HLN.out] at hX12
        rw [HLN.out]
        have hb13 : Below w12.heap.size w12 (w12.alloc (.cells (carr ep' sh' (.slice ax n' cx) (.slice bx n' dx) le') 29)) := (Below.refl _ _).alloc (Nat.le_refl _) _
        have ho13 := heap_alloc_new w12 (.cells (carr ep' sh' (.slice ax n' cx) (.slice bx n' dx) le') 29)
        go_upto_region 14 with fail
        generalize w12.alloc (.cells (carr ep' sh' (.slice ax n' cx) (.slice bx n' dx) le') 29) = w13 at *
        have HO13 : Hid (w13.heap[p5]? = some (.cells (carr ep' sh' (.slice a1' n' c1') (.slice b1' n' d1') le') 29)) := heap_kept HO12.out hb13
        have HW13 : Hid (w13.heap[p6]? = some (.cells (rarr ep' sh' (.slice a3 n' c3) le') 25)) := heap_kept HW12.out hb13
        have HC13 : Hid (Cfr w13 (.agg (carr ep' sh' (.slice a1' n' c1') (.slice b1' n' d1') le')) ⟨ep', sh', l, le'⟩) := HC12.out.later hb13
        have HR13 : Hid (Rfr w13 (.agg (rarr ep' sh' (.slice a3 n' c3) le')) ⟨ep', sh', l, le'⟩) := HR12.out.later hb13
        have HB13 : Hid (Below w.heap.size w w13) := HB12.out.trans (hb13.mono HB12.out.size)
        have HV13 : Hid (Own w13 w.heap.size (.slice (some ⟨gs, 0, none⟩) ns cs) (bs ++ bytesC ⟨ep', sh', l, le'⟩)) := HV12.out.later hb13
        have HX13 : Hid (Cfr w13 (.agg (carr ep' sh' (.slice ax n' cx) (.slice bx n' dx) le')) ⟨ep', sh', l, le'⟩) := hX12.later hb13
        have HRD13 : Hid (Rd w13 g11 (some [])) := hrd12.later hb13
        obtain ⟨z0, z1, z2, z3, z4⟩ := five_cells ho13
        clear hb13 ho13 hX12 HV12 HO12 HW12 HC12 HR12 HB12 hrd12
        generalize w12.heap.size = p12 at *
        obtain ⟨x0, x1, x2, x3, x4⟩ := five_cells HO13.out
        obtain ⟨y0, y1, y2, y3⟩ := four_cells HW13.out
        have HS : Hid (∀ w', Below w13.heap.size w13 w' → Below w13.heap.size w13 w' ∧ w'.cell? ⟨p12, 0, none⟩ = some (.int .u64 (ep' : Nat)) ∧ w'.cell? ⟨p12, 1, none⟩ = some (.int .i64 sh') ∧ w'.cell? ⟨p12, 2, none⟩ = some (.slice ax n' cx) ∧ w'.cell? ⟨p12, 3, none⟩ = some (.slice bx n' dx) ∧ w'.cell? ⟨p12, 4, none⟩ = some (.int .i64 le') ∧ w'.cell? ⟨p5, 0, none⟩ = some (.int .u64 (ep' : Nat)) ∧ w'.cell? ⟨p5, 1, none⟩ = some (.int .i64 sh') ∧ w'.cell? ⟨p5, 2, none⟩ = some (.slice a1' n' c1') ∧ w'.cell? ⟨p5, 3, none⟩ = some (.slice b1' n' d1') ∧ w'.cell? ⟨p5, 4, none⟩ = some (.int .i64 le') ∧ w'.cell? ⟨p6, 0, none⟩ = some (.int .u64 (ep' : Nat)) ∧ w'.cell? ⟨p6, 1, none⟩ = some (.int .i64 sh') ∧ w'.cell? ⟨p6, 2, none⟩ = some (.slice a3 n' c3) ∧ w'.cell? ⟨p6, 3, none⟩ = some (.int .i64 le') ∧ (convert 48 9 (.slice a1 len1 cap1)).run Try.prog w' = .ok (.string (str bs)) w' ∧ (convert 48 9 (.slice (some ⟨gs, 0, none⟩) ns cs)).run Try.prog w' = .ok (.string (str (bs ++ bytesC ⟨ep', sh', l, le'⟩))) w' ∧ Rd w' g11 (some [])) := fun w' hb => ⟨hb, cell_later hb z0, cell_later hb z1, cell_later hb z2, cell_later hb z3, cell_later hb z4, cell_later hb x0, cell_later hb x1, cell_later hb x2, cell_later hb x3, cell_later hb x4, cell_later hb y0, cell_later hb y1, cell_later hb y2, cell_later hb y3, conv_row ((HRB.out.later HB13.out).later hb) _, conv_row (HV13.out.row.later hb) _, HRD13.out.later hb⟩
        have ha : ∀ w, (Op.stringOp .add (str bs) (str (bytesC ⟨ep', sh', l, le'⟩))).run Try.prog w = .ok (.string (str (bs ++ bytesC ⟨ep', sh', l, le'⟩))) w := fun w => add_str _ _ w (by rw [hbm]; have := bytesC_len _ HRC.out; omega)
        clear x0 x1 x2 x3 x4 y0 y1 y2 y3 z0 z1 z2 z3 z4
        have hd0 : Below w13.heap.size w13 w13.drew := (Below.refl _ _).drew
        refine wp_region_noPanic ?_
        refine wp_region_held_drew (S := (fun w' => Below w13.heap.size w13 w' ∧ w'.cell? ⟨p12, 0, none⟩ = some (.int .u64 (ep' : Nat)) ∧ w'.cell? ⟨p12, 1, none⟩ = some (.int .i64 sh') ∧ w'.cell? ⟨p12, 2, none⟩ = some (.slice ax n' cx) ∧ w'.cell? ⟨p12, 3, none⟩ = some (.slice bx n' dx) ∧ w'.cell? ⟨p12, 4, none⟩ = some (.int .i64 le') ∧ w'.cell? ⟨p5, 0, none⟩ = some (.int .u64 (ep' : Nat)) ∧ w'.cell? ⟨p5, 1, none⟩ = some (.int .i64 sh') ∧ w'.cell? ⟨p5, 2, none⟩ = some (.slice a1' n' c1') ∧ w'.cell? ⟨p5, 3, none⟩ = some (.slice b1' n' d1') ∧ w'.cell? ⟨p5, 4, none⟩ = some (.int .i64 le') ∧ w'.cell? ⟨p6, 0, none⟩ = some (.int .u64 (ep' : Nat)) ∧ w'.cell? ⟨p6, 1, none⟩ = some (.int .i64 sh') ∧ w'.cell? ⟨p6, 2, none⟩ = some (.slice a3 n' c3) ∧ w'.cell? ⟨p6, 3, none⟩ = some (.int .i64 le') ∧ (convert 48 9 (.slice a1 len1 cap1)).run Try.prog w' = .ok (.string (str bs)) w' ∧ (convert 48 9 (.slice (some ⟨gs, 0, none⟩) ns cs)).run Try.prog w' = .ok (.string (str (bs ++ bytesC ⟨ep', sh', l, le'⟩))) w' ∧ Rd w' g11 (some []))) (by kernel_rfl) ?_ (fun hHeld => ?_)
        · exact HS.out _ hd0
        refine held_take (i := 0) (d := 88) (v := ?_) rfl rfl (by kernel_rfl) (by kernel_rfl) (by kernel_rfl) (fun _ _ _ h => h) (Or.inl ⟨by rfl, ?_⟩) hHeld ?_
        rotate_left
        · (intro w hSw; (try dsimp only at hSw); go_simp; all_goals (with_reducible rfl))
        try simp only [Act.put, List.setIfInBounds_toArray, List.set_cons_zero, List.set_cons_succ]
        refine held_take (i := 1) (d := 89) (v := ?_) rfl rfl (by kernel_rfl) (by kernel_rfl) (by kernel_rfl) (fun _ _ _ h => h) (Or.inl ⟨by rfl, ?_⟩) hHeld ?_
        rotate_left
        · (intro w hSw; (try dsimp only at hSw); go_simp; all_goals (with_reducible rfl))
        try simp only [Act.put, List.setIfInBounds_toArray, List.set_cons_zero, List.set_cons_succ]
        refine held_take (i := 2) (d := 90) (v := ?_) rfl rfl (by kernel_rfl) (by kernel_rfl) (by kernel_rfl) (fun _ _ _ h => h) (Or.inl ⟨by rfl, ?_⟩) hHeld ?_
        rotate_left
        · (intro w hSw; (try dsimp only at hSw); go_simp; all_goals (with_reducible rfl))
        try simp only [Act.put, List.setIfInBounds_toArray, List.set_cons_zero, List.set_cons_succ]
        refine held_take (i := 3) (d := 91) (v := ?_) rfl rfl (by kernel_rfl) (by kernel_rfl) (by kernel_rfl) (fun _ _ _ h => h) (Or.inl ⟨by rfl, ?_⟩) hHeld ?_
        rotate_left
        · (intro w hSw; (try dsimp only at hSw); go_simp; all_goals (with_reducible rfl))
        try simp only [Act.put, List.setIfInBounds_toArray, List.set_cons_zero, List.set_cons_succ]
        refine held_take (i := 4) (d := 92) (v := ?_) rfl rfl (by kernel_rfl) (by kernel_rfl) (by kernel_rfl) (fun _ _ _ h => h) (Or.inl ⟨by rfl, ?_⟩) hHeld ?_
        rotate_left
        · (intro w hSw; (try dsimp only at hSw); go_simp; all_goals (with_reducible rfl))
        try simp only [Act.put, List.setIfInBounds_toArray, List.set_cons_zero, List.set_cons_succ]
        refine wpAnyH_ready (rs := [5]) (by kernel_rfl) (by simp) ?_
        refine AllReadyH.cons rfl (fun K hK => ?_) AllReadyH.nil
        go_simp
        have hq := rput_any _ _ _ (HR13.out.later hd0) HRC.out HEP
        refine hq.mono ?_
        clear hq
        rintro e u1 ⟨⟨v4, rfl, hv4⟩, hu1⟩
        obtain ⟨a4, n4, c4, rfl⟩ : ∃ a n c, v4 = .slice a n c := by obtain ⟨a, n, c, e, -⟩ := hv4.slice; exact ⟨_, _, _, e⟩
        replace hu1 : Below w13.heap.size w13 u1 := hd0.trans hu1
        have r4 := hv4.row
        clear hv4
        go_wp2_with fail
        refine hK.out _ _ ?_ (fun hHeld => ?_)
        · exact HS.out _ hu1
        clear hK K
        try simp only [Act.put, List.setIfInBounds_toArray, List.set_cons_zero, List.set_cons_succ]
        have HS2 : Hid (∀ w', Below u1.heap.size u1 w' → (Below w13.heap.size w13 w' ∧ w'.cell? ⟨p12, 0, none⟩ = some (.int .u64 (ep' : Nat)) ∧ w'.cell? ⟨p12, 1, none⟩ = some (.int .i64 sh') ∧ w'.cell? ⟨p12, 2, none⟩ = some (.slice ax n' cx) ∧ w'.cell? ⟨p12, 3, none⟩ = some (.slice bx n' dx) ∧ w'.cell? ⟨p12, 4, none⟩ = some (.int .i64 le') ∧ w'.cell? ⟨p5, 0, none⟩ = some (.int .u64 (ep' : Nat)) ∧ w'.cell? ⟨p5, 1, none⟩ = some (.int .i64 sh') ∧ w'.cell? ⟨p5, 2, none⟩ = some (.slice a1' n' c1') ∧ w'.cell? ⟨p5, 3, none⟩ = some (.slice b1' n' d1') ∧ w'.cell? ⟨p5, 4, none⟩ = some (.int .i64 le') ∧ w'.cell? ⟨p6, 0, none⟩ = some (.int .u64 (ep' : Nat)) ∧ w'.cell? ⟨p6, 1, none⟩ = some (.int .i64 sh') ∧ w'.cell? ⟨p6, 2, none⟩ = some (.slice a3 n' c3) ∧ w'.cell? ⟨p6, 3, none⟩ = some (.int .i64 le') ∧ (convert 48 9 (.slice a1 len1 cap1)).run Try.prog w' = .ok (.string (str bs)) w' ∧ (convert 48 9 (.slice (some ⟨gs, 0, none⟩) ns cs)).run Try.prog w' = .ok (.string (str (bs ++ bytesC ⟨ep', sh', l, le'⟩))) w' ∧ Rd w' g11 (some [])) ∧ (convert 48 9 (.slice a4 n4 c4)).run Try.prog w' = .ok (.string (str (bytesC ⟨ep', sh', l, le'⟩))) w') := fun w' hb => ⟨HS.out _ (hu1.trans (hb.mono hu1.size)), conv_row (r4.later hb) _⟩
        refine held_mono (S' := (fun w' => (Below w13.heap.size w13 w' ∧ w'.cell? ⟨p12, 0, none⟩ = some (.int .u64 (ep' : Nat)) ∧ w'.cell? ⟨p12, 1, none⟩ = some (.int .i64 sh') ∧ w'.cell? ⟨p12, 2, none⟩ = some (.slice ax n' cx) ∧ w'.cell? ⟨p12, 3, none⟩ = some (.slice bx n' dx) ∧ w'.cell? ⟨p12, 4, none⟩ = some (.int .i64 le') ∧ w'.cell? ⟨p5, 0, none⟩ = some (.int .u64 (ep' : Nat)) ∧ w'.cell? ⟨p5, 1, none⟩ = some (.int .i64 sh') ∧ w'.cell? ⟨p5, 2, none⟩ = some (.slice a1' n' c1') ∧ w'.cell? ⟨p5, 3, none⟩ = some (.slice b1' n' d1') ∧ w'.cell? ⟨p5, 4, none⟩ = some (.int .i64 le') ∧ w'.cell? ⟨p6, 0, none⟩ = some (.int .u64 (ep' : Nat)) ∧ w'.cell? ⟨p6, 1, none⟩ = some (.int .i64 sh') ∧ w'.cell? ⟨p6, 2, none⟩ = some (.slice a3 n' c3) ∧ w'.cell? ⟨p6, 3, none⟩ = some (.int .i64 le') ∧ (convert 48 9 (.slice a1 len1 cap1)).run Try.prog w' = .ok (.string (str bs)) w' ∧ (convert 48 9 (.slice (some ⟨gs, 0, none⟩) ns cs)).run Try.prog w' = .ok (.string (str (bs ++ bytesC ⟨ep', sh', l, le'⟩))) w' ∧ Rd w' g11 (some [])) ∧ (convert 48 9 (.slice a4 n4 c4)).run Try.prog w' = .ok (.string (str (bytesC ⟨ep', sh', l, le'⟩))) w')) (fun _ h => h.1) _ _ _ _ ?_
        replace hHeld := HS2.out _ (Below.refl _ _)
        refine held_take (i := 6) (d := 94) (v := ?_) rfl rfl (by kernel_rfl) (by kernel_rfl) (by kernel_rfl) (fun _ _ _ h => h) (Or.inl ⟨by rfl, ?_⟩) hHeld ?_
        rotate_left
        · (intro w hSw; (try dsimp only at hSw); go_simp; all_goals (with_reducible rfl))
        try simp only [Act.put, List.setIfInBounds_toArray, List.set_cons_zero, List.set_cons_succ]
        refine held_take (i := 7) (d := 95) (v := ?_) rfl rfl (by kernel_rfl) (by kernel_rfl) (by kernel_rfl) (fun _ _ _ h => h) (Or.inl ⟨by rfl, ?_⟩) hHeld ?_
        rotate_left
        · (intro w hSw; (try dsimp only at hSw); go_simp; all_goals (with_reducible rfl))
        try simp only [Act.put, List.setIfInBounds_toArray, List.set_cons_zero, List.set_cons_succ]
        refine held_take (i := 8) (d := 96) (v := ?_) rfl rfl (by kernel_rfl) (by kernel_rfl) (by kernel_rfl) (fun _ _ _ h => h) (Or.inl ⟨by rfl, ?_⟩) hHeld ?_
        rotate_left
        · (intro w hSw; (try dsimp only at hSw); go_simp; all_goals (with_reducible rfl))
        try simp only [Act.put, List.setIfInBounds_toArray, List.set_cons_zero, List.set_cons_succ]
        refine held_take (i := 9) (d := 97) (v := ?_) rfl rfl (by kernel_rfl) (by kernel_rfl) (by kernel_rfl) (fun _ _ _ h => h) (Or.inl ⟨by rfl, ?_⟩) hHeld ?_
        rotate_left
        · (intro w hSw; (try dsimp only at hSw); go_simp; all_goals (with_reducible rfl))
        try simp only [Act.put, List.setIfInBounds_toArray, List.set_cons_zero, List.set_cons_succ]
        refine held_take (i := 10) (d := 98) (v := ?_) rfl rfl (by kernel_rfl) (by kernel_rfl) (by kernel_rfl) (fun _ _ _ h => h) (Or.inl ⟨by rfl, ?_⟩) hHeld ?_
        rotate_left
        · (intro w hSw; (try dsimp only at hSw); go_simp; all_goals (with_reducible rfl))
        try simp only [Act.put, List.setIfInBounds_toArray, List.set_cons_zero, List.set_cons_succ]
        refine held_take (i := 11) (d := 99) (v := ?_) rfl rfl (by kernel_rfl) (by kernel_rfl) (by kernel_rfl) (fun _ _ _ h => h) (Or.inl ⟨by rfl, ?_⟩) hHeld ?_
        rotate_left
        · (intro w hSw; (try dsimp only at hSw); go_simp; all_goals (with_reducible rfl))
        try simp only [Act.put, List.setIfInBounds_toArray, List.set_cons_zero, List.set_cons_succ]
        refine held_take (i := 12) (d := 100) (v := ?_) rfl rfl (by kernel_rfl) (by kernel_rfl) (by kernel_rfl) (fun _ _ _ h => h) (Or.inl ⟨by rfl, ?_⟩) hHeld ?_
        rotate_left
        · (intro w hSw; (try dsimp only at hSw); go_simp; all_goals (with_reducible rfl))
        try simp only [Act.put, List.setIfInBounds_toArray, List.set_cons_zero, List.set_cons_succ]
        refine held_take (i := 13) (d := 101) (v := ?_) rfl rfl (by kernel_rfl) (by kernel_rfl) (by kernel_rfl) (fun _ _ _ h => h) (Or.inl ⟨by rfl, ?_⟩) hHeld ?_
        rotate_left
        · (intro w hSw; (try dsimp only at hSw); go_simp; all_goals (with_reducible rfl))
        try simp only [Act.put, List.setIfInBounds_toArray, List.set_cons_zero, List.set_cons_succ]
        refine held_take (i := 14) (d := 102) (v := ?_) rfl rfl (by kernel_rfl) (by kernel_rfl) (by kernel_rfl) (fun _ _ _ h => h) (Or.inl ⟨by rfl, ?_⟩) hHeld ?_
        rotate_left
        · (intro w hSw; (try dsimp only at hSw); go_simp; all_goals (with_reducible rfl))
        try simp only [Act.put, List.setIfInBounds_toArray, List.set_cons_zero, List.set_cons_succ]
        refine wpAnyH_ready (rs := [15]) (by kernel_rfl) (by simp) ?_
        refine AllReadyH.cons rfl (fun K hK => ?_) AllReadyH.nil
        go_simp
        have hq := same_any _ _ _ _ (HX13.out.later hu1) (HC13.out.later hu1)
        refine hq.mono ?_
        clear hq
        rintro e u2 ⟨rfl, hu2⟩
        go_wp2_with fail
        refine hK.out _ _ ?_ (fun hHeld => ?_)
        · exact HS2.out _ hu2
        clear hK K
        try simp only [Act.put, List.setIfInBounds_toArray, List.set_cons_zero, List.set_cons_succ]
        refine held_take (i := 16) (d := 104) (v := ?_) rfl rfl (by kernel_rfl) (by kernel_rfl) (by kernel_rfl) (fun _ _ _ h => h) (Or.inl ⟨by rfl, ?_⟩) hHeld ?_
        rotate_left
        · (intro w hSw; (try dsimp only at hSw); go_simp; all_goals (with_reducible rfl))
        try simp only [Act.put, List.setIfInBounds_toArray, List.set_cons_zero, List.set_cons_succ]
        refine held_take (i := 17) (d := 105) (v := ?_) rfl rfl (by kernel_rfl) (by kernel_rfl) (by kernel_rfl) (fun _ _ _ h => h) (Or.inl ⟨by rfl, ?_⟩) hHeld ?_
        rotate_left
        · (intro w hSw; (try dsimp only at hSw); go_simp; all_goals (with_reducible rfl))
        try simp only [Act.put, List.setIfInBounds_toArray, List.set_cons_zero, List.set_cons_succ]
        refine held_take (i := 18) (d := 106) (v := ?_) rfl rfl (by kernel_rfl) (by kernel_rfl) (by kernel_rfl) (fun _ _ _ h => h) (Or.inl ⟨by rfl, ?_⟩) hHeld ?_
        rotate_left
        · (intro w hSw; (try dsimp only at hSw); go_simp; all_goals (with_reducible rfl))
        try simp only [Act.put, List.setIfInBounds_toArray, List.set_cons_zero, List.set_cons_succ]
        refine wpAnyH_ready (rs := [19]) (by kernel_rfl) (by simp) ?_
        refine AllReadyH.cons rfl (fun K hK => ?_) AllReadyH.nil
        go_simp
        refine (done_any g11 _ _ hHeld.1.2.2.2.2.2.2.2.2.2.2.2.2.2.2.2.2.2).mono ?_
        rintro e u3 ⟨rfl, hw⟩
        subst u3
        rw [show ((some [] : Option (List Nat)) == some []) = true from rfl]
        go_wp2_with fail
        refine hK.out _ _ ?_ (fun hHeld => ?_)
        · exact HS2.out _ hu2
        clear hK K
        try simp only [Act.put, List.setIfInBounds_toArray, List.set_cons_zero, List.set_cons_succ]
        refine held_take (i := 20) (d := 108) (v := ?_) rfl rfl (by kernel_rfl) (by kernel_rfl) (by kernel_rfl) (fun _ _ _ h => h) (Or.inl ⟨by rfl, ?_⟩) hHeld ?_
        rotate_left
        · (intro w hSw; (try dsimp only at hSw); go_simp; all_goals (with_reducible rfl))
        try simp only [Act.put, List.setIfInBounds_toArray, List.set_cons_zero, List.set_cons_succ]
        refine held_take (i := 21) (d := 109) (v := ?_) rfl rfl (by kernel_rfl) (by kernel_rfl) (by kernel_rfl) (fun _ _ _ h => h) (Or.inl ⟨by rfl, ?_⟩) hHeld ?_
        rotate_left
        · (intro w hSw; (try dsimp only at hSw); go_simp; all_goals (with_reducible rfl))
        try simp only [Act.put, List.setIfInBounds_toArray, List.set_cons_zero, List.set_cons_succ]
        refine wpAnyH_ready (rs := [22]) (by kernel_rfl) (by simp) ?_
        refine AllReadyH.cons rfl (fun K hK => ?_) AllReadyH.nil
        go_simp
        refine (awake_any _).mono ?_
        rintro e u4 ⟨rfl, hu4⟩
        go_wp2_with fail
        refine hK.out _ _ ?_ (fun hHeld => ?_)
        · exact HS2.out _ (hu2.trans (hu4.mono hu2.size))
        clear hK K
        try simp only [Act.put, List.setIfInBounds_toArray, List.set_cons_zero, List.set_cons_succ]
        refine held_take (i := 23) (d := 111) (v := ?_) rfl rfl (by kernel_rfl) (by kernel_rfl) (by kernel_rfl) (fun _ _ _ h => h) (Or.inl ⟨by rfl, ?_⟩) hHeld ?_
        rotate_left
        · (intro w hSw; (try dsimp only at hSw); go_simp; all_goals (with_reducible rfl))
        try simp only [Act.put, List.setIfInBounds_toArray, List.set_cons_zero, List.set_cons_succ]
        refine held_take (i := 24) (d := 4) (v := ?_) rfl rfl (by kernel_rfl) (by kernel_rfl) (by kernel_rfl) (fun _ _ _ h => h) (Or.inl ⟨by rfl, ?_⟩) hHeld ?_
        rotate_left
        · (intro w hSw; (try dsimp only at hSw); go_simp; all_goals (with_reducible rfl))
        try simp only [Act.put, List.setIfInBounds_toArray, List.set_cons_zero, List.set_cons_succ]
        refine wpAnyH_done (by kernel_rfl) ?_ _
        refine NoPanic.normal ?_
        have HA := HB13.out.trans (hu1.mono HB13.out.size)
        have HA2 := HA.trans (hu2.mono HA.size)
        have HA3 := HA2.trans (hu4.mono HA2.size)
        clear hHeld HS HS2 ha
        go_wp2
        go_ret
        exact ⟨rfl, HA3⟩
    | true =>
      have hlp : 0 < len1 := by
        rcases Nat.eq_zero_or_pos len1 with h0 | h0
        · exfalso
          have hb0 : bs = [] := List.length_eq_zero_iff.1 (HRB.out.1.trans h0)
          rw [hb0, not_ok_nil] at hok
          cases hok
        · exact h0
      obtain ⟨ab, aoff, e1, -⟩ := HRB.out.at hlp
      subst e1
      obtain ⟨dd, t, hbt, hrd, hed, hq⟩ := read_ok g6 bs w6 hrd6 hok
      obtain ⟨epd, shd, ld, led⟩ := dd
      simp only at hed
      have HBT : Hid (bs = bytesC ⟨epd, shd, ld, led⟩ ++ t) := hbt
      have HRD : Hid (rightB ⟨epd, shd, ld, led⟩ = true) := hrd
      have HED : Hid (epd < 18446744073709551616) := hed
      clear hbt hrd hed hrd6 hok
      have hcall := hq
      go_wp2_with fail
      refine hcall.mono ?_
      clear hcall
      rintro e w7 ⟨⟨v7, rfl, hv7⟩, hrd7, ho7⟩
      have hb67 : Below w5.heap.size w5 w7 := HB56.out.trans (ho7.below HG6.out HS6.out)
      have HO7 : Hid (w7.heap[p5]? = some (.cells (carr ep' sh' (.slice a1' n' c1') (.slice b1' n' d1') le') 29)) := heap_kept HO5.out hb67
      have HW7 : Hid (w7.heap[p6]? = some (.cells (rarr ep' sh' (.slice a3 n' c3) le') 25)) := heap_kept HW5.out hb67
      have HC7 : Hid (Cfr w7 (.agg (carr ep' sh' (.slice a1' n' c1') (.slice b1' n' d1') le')) ⟨ep', sh', l, le'⟩) := HC5.out.later hb67
      have HR7 : Hid (Rfr w7 (.agg (rarr ep' sh' (.slice a3 n' c3) le')) ⟨ep', sh', l, le'⟩) := HR5.out.later hb67
      have HB7 : Hid (Below w.heap.size w w7) := HB5.out.trans (hb67.mono HB5.out.size)
      have HV7 : Hid (Own w7 w.heap.size (.slice aS ns cs) S) := HV5.out.later hb67
      clear hq
      have HRD7 : Hid (Rd w7 g6 (some t)) := hrd7
      have HS7 : Hid (g6 < w7.heap.size) := Nat.lt_of_lt_of_le HGL.out ho7.size
      clear hb67 ho7 HB56 HV5 HO5 HW5 HC5 HR5 HB5
      obtain ⟨ad, cd, bd, dd', rfl, hA, hB, hld⟩ := hv7.read
      simp only at hA hB hld
      have hC7 : Cfr w7 (.agg (carr epd shd (.slice ad ld.length cd) (.slice bd ld.length dd') led)) ⟨epd, shd, ld, led⟩ := ⟨_, _, _, _, rfl, hA, hB, by show ld.length ≤ 100000; exact hld⟩
      clear hA hB hld hv7
      generalize hnd : ld.length = nd at *
      have HLD : Hid (ld.length = nd) := hnd
      clear hnd
      have hb8 : Below w7.heap.size w7 (w7.alloc (.cells (carr epd shd (.slice ad nd cd) (.slice bd nd dd') led) 29)) := (Below.refl _ _).alloc (Nat.le_refl _) _
      have ho8 := heap_alloc_new w7 (.cells (carr epd shd (.slice ad nd cd) (.slice bd nd dd') led) 29)
      go_upto_region 8 with fail
      generalize w7.alloc (.cells (carr epd shd (.slice ad nd cd) (.slice bd nd dd') led) 29) = w8 at *
      have HO8 : Hid (w8.heap[p5]? = some (.cells (carr ep' sh' (.slice a1' n' c1') (.slice b1' n' d1') le') 29)) := heap_kept HO7.out hb8
      have HW8 : Hid (w8.heap[p6]? = some (.cells (rarr ep' sh' (.slice a3 n' c3) le') 25)) := heap_kept HW7.out hb8
      have HC8 : Hid (Cfr w8 (.agg (carr ep' sh' (.slice a1' n' c1') (.slice b1' n' d1') le')) ⟨ep', sh', l, le'⟩) := HC7.out.later hb8
      have HR8 : Hid (Rfr w8 (.agg (rarr ep' sh' (.slice a3 n' c3) le')) ⟨ep', sh', l, le'⟩) := HR7.out.later hb8
      have HB8 : Hid (Below w.heap.size w w8) := HB7.out.trans (hb8.mono HB7.out.size)
      have HV8 : Hid (Own w8 w.heap.size (.slice aS ns cs) S) := HV7.out.later hb8
      have HD8 : Hid (w8.heap[w7.heap.size]? = some (.cells (carr epd shd (.slice ad nd cd) (.slice bd nd dd') led) 29)) := ho8
      have HCD8 : Hid (Cfr w8 (.agg (carr epd shd (.slice ad nd cd) (.slice bd nd dd') led)) ⟨epd, shd, ld, led⟩) := hC7.later hb8
      have HRD8 : Hid (Rd w8 g6 (some t)) := HRD7.out.later hb8
      clear HRD7 hrd7
      clear hb8 ho8 hC7 HV7 HO7 HW7 HC7 HR7 HB7
      generalize w7.heap.size = p9 at *
      obtain ⟨jd, hjd⟩ : ∃ jd, jd = (bytesC ⟨epd, shd, ld, led⟩).length := ⟨_, rfl⟩
      have hrl : t.length + jd = len1 := by have h1 := HRB.out.1; rw [HBT.out, List.length_append, ← hjd] at h1; omega
      have hdt : bs.drop jd = t := by rw [HBT.out, hjd, List.drop_left]
      have hjp : 0 < jd := by rw [hjd]; exact bytesC_pos _
      have HJD : Hid (jd = (bytesC ⟨epd, shd, ld, led⟩).length) := hjd
      clear hjd
      obtain ⟨AT, hAT⟩ : ∃ AT, (if cap1 = jd then (some ⟨ab, aoff, none⟩ : Option Addr) else some ⟨ab, aoff + jd, none⟩) = AT := ⟨_, rfl⟩
      have hrow : Row w8 AT (len1 - jd) t := by
        have hr0 := (HRB.out.later HB8.out).drop jd (by omega)
        rw [hdt] at hr0
        by_cases hcj : cap1 = jd
        · have hm0 : len1 - jd = 0 := by have := HMC.out; omega
          rw [hm0] at hr0 ⊢
          have ht0 : t = [] := List.length_eq_zero_iff.1 hr0.1
          rw [ht0]; exact Row.empty
        · rw [← hAT, if_neg hcj]; exact hr0
      obtain ⟨x0, x1, x2, x3, x4⟩ := five_cells HD8.out
      have HS : Hid (∀ w', Below w8.heap.size w8 w' → Below w8.heap.size w8 w' ∧ w'.cell? ⟨p9, 0, none⟩ = some (.int .u64 (epd : Nat)) ∧ w'.cell? ⟨p9, 1, none⟩ = some (.int .i64 shd) ∧ w'.cell? ⟨p9, 2, none⟩ = some (.slice ad nd cd) ∧ w'.cell? ⟨p9, 3, none⟩ = some (.slice bd nd dd') ∧ w'.cell? ⟨p9, 4, none⟩ = some (.int .i64 led) ∧ Rd w' g6 (some t) ∧ (convert 48 9 (.slice (some ⟨ab, aoff, none⟩) len1 cap1)).run Try.prog w' = .ok (.string (str bs)) w' ∧ (convert 48 9 (.slice AT (len1 - jd) (cap1 - jd))).run Try.prog w' = .ok (.string (str t)) w') := fun w' hb => ⟨hb, cell_later hb x0, cell_later hb x1, cell_later hb x2, cell_later hb x3, cell_later hb x4, HRD8.out.later hb, conv_row ((HRB.out.later HB8.out).later hb) _, conv_row (hrow.later hb) _⟩
      have hw48 : IntKind.i64.wrap ((len1 : Int) - ((t.length : Nat) : Int)) = (jd : Int) := by rw [IntKind.wrap]; simp [IntKind.bits]; omega
      have ha : ∀ w, (Op.stringOp .add (str (bytesC ⟨epd, shd, ld, led⟩)) (str t)).run Try.prog w = .ok (.string (str bs)) w := fun w => by have := add_str (bytesC ⟨epd, shd, ld, led⟩) t w (by rw [← HJD.out]; omega); rw [← HBT.out] at this; exact this
      have hj1 : ¬ ((jd : Int) < 0) := by omega
      have hj2 : jd ≤ len1 := by omega
      have hj5 : (jd : Int) ≤ (len1 : Int) := by omega
      have hj3 : len1 ≤ cap1 := HMC.out
      generalize hrr : t.length = r at *
      have HRR : Hid (t.length = r) := hrr
      clear hrr hdt hrow x0 x1 x2 x3 x4
      have hd0 : Below w8.heap.size w8 w8.drew := (Below.refl _ _).drew
      refine wp_region_noPanic ?_
      refine wp_region_held_drew (S := (fun w' => Below w8.heap.size w8 w' ∧ w'.cell? ⟨p9, 0, none⟩ = some (.int .u64 (epd : Nat)) ∧ w'.cell? ⟨p9, 1, none⟩ = some (.int .i64 shd) ∧ w'.cell? ⟨p9, 2, none⟩ = some (.slice ad nd cd) ∧ w'.cell? ⟨p9, 3, none⟩ = some (.slice bd nd dd') ∧ w'.cell? ⟨p9, 4, none⟩ = some (.int .i64 led) ∧ Rd w' g6 (some t) ∧ (convert 48 9 (.slice (some ⟨ab, aoff, none⟩) len1 cap1)).run Try.prog w' = .ok (.string (str bs)) w' ∧ (convert 48 9 (.slice AT (len1 - jd) (cap1 - jd))).run Try.prog w' = .ok (.string (str t)) w')) (by kernel_rfl) ?_ (fun hHeld => ?_)
      · exact HS.out _ hd0
      refine held_take (i := 0) (d := 33) (v := ?_) rfl rfl (by kernel_rfl) (by kernel_rfl) (by kernel_rfl) (fun _ _ _ h => h) (Or.inl ⟨by rfl, ?_⟩) hHeld ?_
      rotate_left
      · (intro w hSw; (try dsimp only at hSw); go_simp; all_goals (with_reducible rfl))
      try simp only [Act.put, List.setIfInBounds_toArray, List.set_cons_zero, List.set_cons_succ]
      refine held_take (i := 1) (d := 34) (v := ?_) rfl rfl (by kernel_rfl) (by kernel_rfl) (by kernel_rfl) (fun _ _ _ h => h) (Or.inl ⟨by rfl, ?_⟩) hHeld ?_
      rotate_left
      · (intro w hSw; (try dsimp only at hSw); go_simp; all_goals (with_reducible rfl))
      try simp only [Act.put, List.setIfInBounds_toArray, List.set_cons_zero, List.set_cons_succ]
      refine held_take (i := 2) (d := 35) (v := ?_) rfl rfl (by kernel_rfl) (by kernel_rfl) (by kernel_rfl) (fun _ _ _ h => h) (Or.inl ⟨by rfl, ?_⟩) hHeld ?_
      rotate_left
      · (intro w hSw; (try dsimp only at hSw); go_simp; all_goals (with_reducible rfl))
      try simp only [Act.put, List.setIfInBounds_toArray, List.set_cons_zero, List.set_cons_succ]
      refine wpAnyH_ready (rs := [3]) (by kernel_rfl) (by simp) ?_
      refine AllReadyH.cons rfl (fun K hK => ?_) AllReadyH.nil
      go_simp
      have hq := right_any _ _ _ (HCD8.out.later hd0)
      rw [HRD.out] at hq
      refine hq.mono ?_
      clear hq
      rintro e u1 ⟨rfl, hu1⟩
      replace hu1 : Below w8.heap.size w8 u1 := hd0.trans hu1
      go_wp2_with fail
      refine hK.out _ _ ?_ (fun hHeld => ?_)
      · exact HS.out _ hu1
      clear hK K
      try simp only [Act.put, List.setIfInBounds_toArray, List.set_cons_zero, List.set_cons_succ]
      refine held_take (i := 4) (d := 37) (v := ?_) rfl rfl (by kernel_rfl) (by kernel_rfl) (by kernel_rfl) (fun _ _ _ h => h) (Or.inl ⟨by rfl, ?_⟩) hHeld ?_
      rotate_left
      · (intro w hSw; (try dsimp only at hSw); go_simp; all_goals (with_reducible rfl))
      try simp only [Act.put, List.setIfInBounds_toArray, List.set_cons_zero, List.set_cons_succ]
      refine held_take (i := 5) (d := 38) (v := ?_) rfl rfl (by kernel_rfl) (by kernel_rfl) (by kernel_rfl) (fun _ _ _ h => h) (Or.inl ⟨by rfl, ?_⟩) hHeld ?_
      rotate_left
      · (intro w hSw; (try dsimp only at hSw); go_simp; all_goals (with_reducible rfl))
      try simp only [Act.put, List.setIfInBounds_toArray, List.set_cons_zero, List.set_cons_succ]
      refine held_take (i := 6) (d := 39) (v := ?_) rfl rfl (by kernel_rfl) (by kernel_rfl) (by kernel_rfl) (fun _ _ _ h => h) (Or.inl ⟨by rfl, ?_⟩) hHeld ?_
      rotate_left
      · (intro w hSw; (try dsimp only at hSw); go_simp; all_goals (with_reducible rfl))
      try simp only [Act.put, List.setIfInBounds_toArray, List.set_cons_zero, List.set_cons_succ]
      refine held_take (i := 10) (d := 43) (v := ?_) rfl rfl (by kernel_rfl) (by kernel_rfl) (by kernel_rfl) (fun _ _ _ h => h) (Or.inl ⟨by rfl, ?_⟩) hHeld ?_
      rotate_left
      · (intro w hSw; (try dsimp only at hSw); go_simp; all_goals (with_reducible rfl))
      try simp only [Act.put, List.setIfInBounds_toArray, List.set_cons_zero, List.set_cons_succ]
      refine held_take (i := 11) (d := 44) (v := ?_) rfl rfl (by kernel_rfl) (by kernel_rfl) (by kernel_rfl) (fun _ _ _ h => h) (Or.inl ⟨by rfl, ?_⟩) hHeld ?_
      rotate_left
      · (intro w hSw; (try dsimp only at hSw); go_simp; all_goals (with_reducible rfl))
      try simp only [Act.put, List.setIfInBounds_toArray, List.set_cons_zero, List.set_cons_succ]
      refine held_take (i := 12) (d := 45) (v := ?_) rfl rfl (by kernel_rfl) (by kernel_rfl) (by kernel_rfl) (fun _ _ _ h => h) (Or.inl ⟨by rfl, ?_⟩) hHeld ?_
      rotate_left
      · (intro w hSw; (try dsimp only at hSw); go_simp; all_goals (with_reducible rfl))
      try simp only [Act.put, List.setIfInBounds_toArray, List.set_cons_zero, List.set_cons_succ]
      refine held_take (i := 13) (d := 46) (v := ?_) rfl rfl (by kernel_rfl) (by kernel_rfl) (by kernel_rfl) (fun _ _ _ h => h) (Or.inl ⟨by rfl, ?_⟩) hHeld ?_
      rotate_left
      · (intro w hSw; (try dsimp only at hSw); go_simp; all_goals (with_reducible rfl))
      try simp only [Act.put, List.setIfInBounds_toArray, List.set_cons_zero, List.set_cons_succ]
      refine held_take (i := 19) (d := 52) (v := ?_) rfl rfl (by kernel_rfl) (by kernel_rfl) (by kernel_rfl) (fun _ _ _ h => h) (Or.inl ⟨by rfl, ?_⟩) hHeld ?_
      rotate_left
      · (intro w hSw; (try dsimp only at hSw); go_simp; all_goals (with_reducible rfl))
      try simp only [Act.put, List.setIfInBounds_toArray, List.set_cons_zero, List.set_cons_succ]
      refine held_take (i := 20) (d := 53) (v := ?_) rfl rfl (by kernel_rfl) (by kernel_rfl) (by kernel_rfl) (fun _ _ _ h => h) (Or.inl ⟨by rfl, ?_⟩) hHeld ?_
      rotate_left
      · (intro w hSw; (try dsimp only at hSw); go_simp; all_goals (with_reducible rfl))
      try simp only [Act.put, List.setIfInBounds_toArray, List.set_cons_zero, List.set_cons_succ]
      refine wpAnyH_ready (rs := [7]) (by kernel_rfl) (by simp) ?_
      refine AllReadyH.cons rfl (fun K hK => ?_) AllReadyH.nil
      go_simp
      have hq := plain_any _ _ _ (HCD8.out.later hu1) (by have := (right_true HRD.out).few; simp only at this ⊢; omega)
      refine hq.mono ?_
      clear hq
      rintro e u2 ⟨⟨v2, rfl, hv2⟩, hu2⟩
      replace hu2 : Below w8.heap.size w8 u2 := hu1.trans (hu2.mono hu1.size)
      have HV2 := hv2.read
      clear hv2
      go_wp2_with fail
      refine hK.out _ _ ?_ (fun hHeld => ?_)
      · exact HS.out _ hu2
      clear hK K
      try simp only [Act.put, List.setIfInBounds_toArray, List.set_cons_zero, List.set_cons_succ]
      refine wpAnyH_ready (rs := [8]) (by kernel_rfl) (by simp) ?_
      refine AllReadyH.cons rfl (fun K hK => ?_) AllReadyH.nil
      go_simp
      have hq := rput_any _ _ _ HV2 HRD.out HED.out
      refine hq.mono ?_
      clear hq
      rintro e u3 ⟨⟨v4, rfl, hv4⟩, hu3⟩
      obtain ⟨a4, n4, c4, rfl⟩ : ∃ a n c, v4 = .slice a n c := by obtain ⟨a, n, c, e, -⟩ := hv4.slice; exact ⟨_, _, _, e⟩
      replace hu3 : Below w8.heap.size w8 u3 := hu2.trans (hu3.mono hu2.size)
      have r4 := hv4.row
      clear hv4
      go_wp2_with fail
      refine hK.out _ _ ?_ (fun hHeld => ?_)
      · exact HS.out _ hu3
      clear hK K
      try simp only [Act.put, List.setIfInBounds_toArray, List.set_cons_zero, List.set_cons_succ]
      have HS2 : Hid (∀ w', Below u3.heap.size u3 w' → (Below w8.heap.size w8 w' ∧ w'.cell? ⟨p9, 0, none⟩ = some (.int .u64 (epd : Nat)) ∧ w'.cell? ⟨p9, 1, none⟩ = some (.int .i64 shd) ∧ w'.cell? ⟨p9, 2, none⟩ = some (.slice ad nd cd) ∧ w'.cell? ⟨p9, 3, none⟩ = some (.slice bd nd dd') ∧ w'.cell? ⟨p9, 4, none⟩ = some (.int .i64 led) ∧ Rd w' g6 (some t) ∧ (convert 48 9 (.slice (some ⟨ab, aoff, none⟩) len1 cap1)).run Try.prog w' = .ok (.string (str bs)) w' ∧ (convert 48 9 (.slice AT (len1 - jd) (cap1 - jd))).run Try.prog w' = .ok (.string (str t)) w') ∧ (convert 48 9 (.slice a4 n4 c4)).run Try.prog w' = .ok (.string (str (bytesC ⟨epd, shd, ld, led⟩))) w') := fun w' hb => ⟨HS.out _ (hu3.trans (hb.mono hu3.size)), conv_row (r4.later hb) _⟩
      refine held_mono (S' := (fun w' => (Below w8.heap.size w8 w' ∧ w'.cell? ⟨p9, 0, none⟩ = some (.int .u64 (epd : Nat)) ∧ w'.cell? ⟨p9, 1, none⟩ = some (.int .i64 shd) ∧ w'.cell? ⟨p9, 2, none⟩ = some (.slice ad nd cd) ∧ w'.cell? ⟨p9, 3, none⟩ = some (.slice bd nd dd') ∧ w'.cell? ⟨p9, 4, none⟩ = some (.int .i64 led) ∧ Rd w' g6 (some t) ∧ (convert 48 9 (.slice (some ⟨ab, aoff, none⟩) len1 cap1)).run Try.prog w' = .ok (.string (str bs)) w' ∧ (convert 48 9 (.slice AT (len1 - jd) (cap1 - jd))).run Try.prog w' = .ok (.string (str t)) w') ∧ (convert 48 9 (.slice a4 n4 c4)).run Try.prog w' = .ok (.string (str (bytesC ⟨epd, shd, ld, led⟩))) w')) (fun _ h => h.1) _ _ _ _ ?_
      replace hHeld := HS2.out _ (Below.refl _ _)
      refine held_take (i := 9) (d := 42) (v := ?_) rfl rfl (by kernel_rfl) (by kernel_rfl) (by kernel_rfl) (fun _ _ _ h => h) (Or.inl ⟨by rfl, ?_⟩) hHeld ?_
      rotate_left
      · (intro w hSw; (try dsimp only at hSw); go_simp; all_goals (with_reducible rfl))
      try simp only [Act.put, List.setIfInBounds_toArray, List.set_cons_zero, List.set_cons_succ]
      refine wpAnyH_ready (rs := [14]) (by kernel_rfl) (by simp) ?_
      refine AllReadyH.cons rfl (fun K hK => ?_) AllReadyH.nil
      go_simp
      refine (left_any g6 _ _ hHeld.1.2.2.2.2.2.2.1).mono ?_
      rintro e u4 ⟨rfl, hw⟩
      subst u4
      rw [show ((some t : Option (List Nat)).getD []).length = r from HRR.out]
      go_wp2_with fail
      refine hK.out _ _ ?_ (fun hHeld => ?_)
      · exact HS2.out _ (Below.refl _ _)
      clear hK K
      try simp only [Act.put, List.setIfInBounds_toArray, List.set_cons_zero, List.set_cons_succ]
      refine held_take (i := 15) (d := 48) (v := ?_) rfl rfl (by kernel_rfl) (by kernel_rfl) (by kernel_rfl) (fun _ _ _ h => h) (Or.inl ⟨by rfl, ?_⟩) hHeld ?_
      rotate_left
      · (intro w hSw; (try dsimp only at hSw); go_simp; all_goals (with_reducible rfl))
      try simp only [Act.put, List.setIfInBounds_toArray, List.set_cons_zero, List.set_cons_succ]
      refine held_take (i := 16) (d := 49) (v := ?_) rfl rfl (by kernel_rfl) (by kernel_rfl) (by kernel_rfl) (fun _ _ _ h => h) (Or.inl ⟨by rfl, ?_⟩) hHeld ?_
      rotate_left
      · (intro w hSw; (try dsimp only at hSw); go_simp; all_goals (with_reducible rfl))
      try simp only [Act.put, List.setIfInBounds_toArray, List.set_cons_zero, List.set_cons_succ]
      refine held_take (i := 17) (d := 50) (v := ?_) rfl rfl (by kernel_rfl) (by kernel_rfl) (by kernel_rfl) (fun _ _ _ h => h) (Or.inl ⟨by rfl, ?_⟩) hHeld ?_
      rotate_left
      · (intro w hSw; (try dsimp only at hSw); go_simp; all_goals (with_reducible rfl))
      try simp only [Act.put, List.setIfInBounds_toArray, List.set_cons_zero, List.set_cons_succ]
      refine held_take (i := 18) (d := 51) (v := ?_) rfl rfl (by kernel_rfl) (by kernel_rfl) (by kernel_rfl) (fun _ _ _ h => h) (Or.inl ⟨by rfl, ?_⟩) hHeld ?_
      rotate_left
      · (intro w hSw; (try dsimp only at hSw); go_simp; all_goals (with_reducible rfl))
      try simp only [Act.put, List.setIfInBounds_toArray, List.set_cons_zero, List.set_cons_succ]
      refine held_take (i := 21) (d := 54) (v := ?_) rfl rfl (by kernel_rfl) (by kernel_rfl) (by kernel_rfl) (fun _ _ _ h => h) (Or.inl ⟨by rfl, ?_⟩) hHeld ?_
      rotate_left
      · (intro w hSw; (try dsimp only at hSw); go_simp; all_goals (with_reducible rfl))
      try simp only [Act.put, List.setIfInBounds_toArray, List.set_cons_zero, List.set_cons_succ]
      refine held_take (i := 22) (d := 55) (v := ?_) rfl rfl (by kernel_rfl) (by kernel_rfl) (by kernel_rfl) (fun _ _ _ h => h) (Or.inl ⟨by rfl, ?_⟩) hHeld ?_
      rotate_left
      · (intro w hSw; (try dsimp only at hSw); go_simp; all_goals (with_reducible rfl))
      try simp only [Act.put, List.setIfInBounds_toArray, List.set_cons_zero, List.set_cons_succ]
      refine held_take (i := 23) (d := 56) (v := ?_) rfl rfl (by kernel_rfl) (by kernel_rfl) (by kernel_rfl) (fun _ _ _ h => h) (Or.inl ⟨by rfl, ?_⟩) hHeld ?_
      rotate_left
      · (intro w hSw; (try dsimp only at hSw); go_simp; all_goals (with_reducible rfl))
      try simp only [Act.put, List.setIfInBounds_toArray, List.set_cons_zero, List.set_cons_succ]
      refine held_take (i := 24) (d := 57) (v := ?_) rfl rfl (by kernel_rfl) (by kernel_rfl) (by kernel_rfl) (fun _ _ _ h => h) (Or.inl ⟨by rfl, ?_⟩) hHeld ?_
      rotate_left
      · (intro w hSw; (try dsimp only at hSw); go_simp; all_goals (with_reducible rfl))
      try simp only [Act.put, List.setIfInBounds_toArray, List.set_cons_zero, List.set_cons_succ]
      refine held_take (i := 25) (d := 58) (v := ?_) rfl rfl (by kernel_rfl) (by kernel_rfl) (by kernel_rfl) (fun _ _ _ h => h) (Or.inl ⟨by rfl, ?_⟩) hHeld ?_
      rotate_left
      · (intro w hSw; (try dsimp only at hSw); go_simp; all_goals (with_reducible rfl))
      try simp only [Act.put, List.setIfInBounds_toArray, List.set_cons_zero, List.set_cons_succ]
      refine held_take (i := 26) (d := 59) (v := ?_) rfl rfl (by kernel_rfl) (by kernel_rfl) (by kernel_rfl) (fun _ _ _ h => h) (Or.inl ⟨by rfl, ?_⟩) hHeld ?_
      rotate_left
      · (intro w hSw; (try dsimp only at hSw); go_simp; all_goals (with_reducible rfl))
      try simp only [Act.put, List.setIfInBounds_toArray, List.set_cons_zero, List.set_cons_succ]
      refine held_take (i := 27) (d := 60) (v := ?_) rfl rfl (by kernel_rfl) (by kernel_rfl) (by kernel_rfl) (fun _ _ _ h => h) (Or.inl ⟨by rfl, ?_⟩) hHeld ?_
      rotate_left
      · (intro w hSw; (try dsimp only at hSw); go_simp; all_goals (with_reducible rfl))
      try simp only [Act.put, List.setIfInBounds_toArray, List.set_cons_zero, List.set_cons_succ]
      refine held_take (i := 28) (d := 61) (v := undef) rfl rfl (by kernel_rfl) (by kernel_rfl) (by kernel_rfl) (fun _ _ _ h => h) (Or.inr ⟨by rfl, rfl⟩) hHeld ?_
      try simp only [Act.put, List.setIfInBounds_toArray, List.set_cons_zero, List.set_cons_succ]
      refine held_take (i := 29) (d := 62) (v := undef) rfl rfl (by kernel_rfl) (by kernel_rfl) (by kernel_rfl) (fun _ _ _ h => h) (Or.inr ⟨by rfl, rfl⟩) hHeld ?_
      try simp only [Act.put, List.setIfInBounds_toArray, List.set_cons_zero, List.set_cons_succ]
      refine held_take (i := 30) (d := 63) (v := undef) rfl rfl (by kernel_rfl) (by kernel_rfl) (by kernel_rfl) (fun _ _ _ h => h) (Or.inr ⟨by rfl, rfl⟩) hHeld ?_
      try simp only [Act.put, List.setIfInBounds_toArray, List.set_cons_zero, List.set_cons_succ]
      refine held_take (i := 31) (d := 64) (v := undef) rfl rfl (by kernel_rfl) (by kernel_rfl) (by kernel_rfl) (fun _ _ _ h => h) (Or.inr ⟨by rfl, rfl⟩) hHeld ?_
      try simp only [Act.put, List.setIfInBounds_toArray, List.set_cons_zero, List.set_cons_succ]
      refine held_take (i := 32) (d := 65) (v := ?_) rfl rfl (by kernel_rfl) (by kernel_rfl) (by kernel_rfl) (fun _ _ _ h => h) (Or.inl ⟨by rfl, ?_⟩) hHeld ?_
      rotate_left
      · (intro w hSw; (try dsimp only at hSw); go_simp; all_goals (with_reducible rfl))
      try simp only [Act.put, List.setIfInBounds_toArray, List.set_cons_zero, List.set_cons_succ]
      refine held_take (i := 33) (d := 66) (v := ?_) rfl rfl (by kernel_rfl) (by kernel_rfl) (by kernel_rfl) (fun _ _ _ h => h) (Or.inl ⟨by rfl, ?_⟩) hHeld ?_
      rotate_left
      · (intro w hSw; (try dsimp only at hSw); go_simp; all_goals (with_reducible rfl))
      try simp only [Act.put, List.setIfInBounds_toArray, List.set_cons_zero, List.set_cons_succ]
      refine wpAnyH_done (by kernel_rfl) ?_ _
      refine NoPanic.normal ?_
      have hb9 : Below w8.heap.size w8 u3 := hu3
      clear HS HS2 hHeld ha hw48 hj1 hj2 hj5 hj3 hjp hrl r4 HV2 hu1 hu2 hu3 hd0
      have HO9 : Hid (u3.heap[p5]? = some (.cells (carr ep' sh' (.slice a1' n' c1') (.slice b1' n' d1') le') 29)) := heap_kept HO8.out hb9
      have HW9 : Hid (u3.heap[p6]? = some (.cells (rarr ep' sh' (.slice a3 n' c3) le') 25)) := heap_kept HW8.out hb9
      have HC9 : Hid (Cfr u3 (.agg (carr ep' sh' (.slice a1' n' c1') (.slice b1' n' d1') le')) ⟨ep', sh', l, le'⟩) := HC8.out.later hb9
      have HR9 : Hid (Rfr u3 (.agg (rarr ep' sh' (.slice a3 n' c3) le')) ⟨ep', sh', l, le'⟩) := HR8.out.later hb9
      have HB9 : Hid (Below w.heap.size w u3) := HB8.out.trans (hb9.mono HB8.out.size)
      have HV9 : Hid (Own u3 w.heap.size (.slice aS ns cs) S) := HV8.out.later hb9
      clear HV8 HO8 HW8 HC8 HR8 HB8 hb9 HCD8 HD8 HRD8 HRD HED HRR HJD HBT
      generalize u3 = w9 at *
      have hcall := rright_any _ _ _ HR9.out
      obtain ⟨y0, y1, y2, y3⟩ := four_cells HW9.out
      go_wp2_with fail
      refine hcall.mono ?_
      clear hcall y0 y1 y2 y3
      rintro e w10 ⟨rfl, hb10⟩
      have HO10 : Hid (w10.heap[p5]? = some (.cells (carr ep' sh' (.slice a1' n' c1') (.slice b1' n' d1') le') 29)) := heap_kept HO9.out hb10
      have HW10 : Hid (w10.heap[p6]? = some (.cells (rarr ep' sh' (.slice a3 n' c3) le') 25)) := heap_kept HW9.out hb10
      have HC10 : Hid (Cfr w10 (.agg (carr ep' sh' (.slice a1' n' c1') (.slice b1' n' d1') le')) ⟨ep', sh', l, le'⟩) := HC9.out.later hb10
      have HR10 : Hid (Rfr w10 (.agg (rarr ep' sh' (.slice a3 n' c3) le')) ⟨ep', sh', l, le'⟩) := HR9.out.later hb10
      have HB10 : Hid (Below w.heap.size w w10) := HB9.out.trans (hb10.mono HB9.out.size)
      have HV10 : Hid (Own w10 w.heap.size (.slice aS ns cs) S) := HV9.out.later hb10
      clear hb10 HV9 HO9 HW9 HC9 HR9 HB9
      cases hrc : rightB ⟨ep', sh', l, le'⟩ with
      | false =>
        have hSb : S = bs := by rw [HSE.out, hrc]; simp
        subst hSb
        have c1 := conv_row HV10.out.row cs
        have c2 := conv_row (HRB.out.later HB10.out) cap1
        go_wp2_with fail
        refine (awake_any _).mono ?_
        rintro e wf ⟨rfl, hbf⟩
        have HBF : Hid (Below w.heap.size w wf) := HB10.out.trans (hbf.mono HB10.out.size)
        clear hbf c1 c2
        go_wp2
        go_ret
        exact ⟨rfl, HBF.out⟩
      | true =>
        have HRC : Hid (rightB ⟨ep', sh', l, le'⟩ = true) := hrc
        have hSb : S = bs ++ bytesC ⟨ep', sh', l, le'⟩ := by rw [HSE.out, hrc]; simp
        clear hrc HSE
        subst hSb
        have hbp := bytesC_pos ⟨ep', sh', l, le'⟩
        obtain ⟨gs, ns', cs', e9, hns, -, hgs, hnc, hcm⟩ := HV10.out.form (by intro e; rw [List.append_eq_nil_iff] at e; rw [e.2] at hbp; simp at hbp)
        simp only [Value.slice.injEq] at e9
        obtain ⟨rfl, rfl, rfl⟩ := e9
        have hbm : bs.length = len1 := HRB.out.1
        rw [List.length_append, hbm] at hns
        have rd10 := HV10.out.row.drop len1 (by omega)
        rw [show List.drop len1 (bs ++ bytesC ⟨ep', sh', l, le'⟩) = bytesC ⟨ep', sh', l, le'⟩ by rw [← hbm, List.drop_left]] at rd10
        simp only [Nat.zero_add] at rd10
        have hz1 : ¬ ((len1 : Int) < 0) := by omega
        have hz2 : len1 ≤ ns := by omega
        have hz3 : ¬ cs = len1 := by omega
        have hz4 : (len1 : Int) ≤ (ns : Int) := by omega
        have HQ0 : Hid (ns = len1 + (bytesC ⟨ep', sh', l, le'⟩).length) := hns
        have hcall := new_any _ (ns - len1) (cs - len1) _ _ rd10 (by simp) (by have : (bytesC ⟨ep', sh', l, le'⟩).length ≤ 1000 := bytesC_len _ HRC.out; omega)
        clear rd10 hns hbp hcm
        go_wp2_with fail
        refine hcall.mono ?_
        clear hcall
        rintro e w11 ⟨g11, rfl, hrd, hg11, hb11⟩
        have HB1011 : Hid (Below w10.heap.size w10 w11) := hb11
        have HG11 : Hid (w10.heap.size ≤ g11) := hg11
        have HS11 : Hid (w10.heap.size ≤ w11.heap.size) := hb11.size
        have hcall := read_put g11 ⟨ep', sh', l, le'⟩ w11 hrd HRC.out HEP
        clear hb11 hg11 hrd
        go_wp2_with fail
        refine hcall.mono ?_
        clear hcall
        rintro e w12 ⟨⟨v12, rfl, hv12⟩, hrd12, ho12⟩
        have hb12 : Below w10.heap.size w10 w12 := HB1011.out.trans (ho12.below HG11.out HS11.out)
        have HO12 : Hid (w12.heap[p5]? = some (.cells (carr ep' sh' (.slice a1' n' c1') (.slice b1' n' d1') le') 29)) := heap_kept HO10.out hb12
        have HW12 : Hid (w12.heap[p6]? = some (.cells (rarr ep' sh' (.slice a3 n' c3) le') 25)) := heap_kept HW10.out hb12
        have HC12 : Hid (Cfr w12 (.agg (carr ep' sh' (.slice a1' n' c1') (.slice b1' n' d1') le')) ⟨ep', sh', l, le'⟩) := HC10.out.later hb12
        have HR12 : Hid (Rfr w12 (.agg (rarr ep' sh' (.slice a3 n' c3) le')) ⟨ep', sh', l, le'⟩) := HR10.out.later hb12
        have HB12 : Hid (Below w.heap.size w w12) := HB10.out.trans (hb12.mono HB10.out.size)
        have HV12 : Hid (Own w12 w.heap.size (.slice (some ⟨gs, 0, none⟩) ns cs) (bs ++ bytesC ⟨ep', sh', l, le'⟩)) := HV10.out.later hb12
        clear hb12 ho12 HV10 HO10 HW10 HC10 HR10 HB10 HB1011
        obtain ⟨ax, cx, bx, dx, rfl, hA, hB, hlx⟩ := hv12.read
        simp only at hA hB hlx
        have hX12 : Cfr w12 (.agg (carr ep' sh' (.slice ax l.length cx) (.slice bx l.length dx) le')) ⟨ep', sh', l, le'⟩ := ⟨_, _, _, _, rfl, hA, hB, hlx⟩
        clear hA hB hlx hv12
        rw [HLN.out] at hX12
        rw [HLN.out]
        have hb13 : Below w12.heap.size w12 (w12.alloc (.cells (carr ep' sh' (.slice ax n' cx) (.slice bx n' dx) le') 29)) := (Below.refl _ _).alloc (Nat.le_refl _) _
        have ho13 := heap_alloc_new w12 (.cells (carr ep' sh' (.slice ax n' cx) (.slice bx n' dx) le') 29)
        go_upto_region 14 with fail
        generalize w12.alloc (.cells (carr ep' sh' (.slice ax n' cx) (.slice bx n' dx) le') 29) = w13 at *
        have HO13 : Hid (w13.heap[p5]? = some (.cells (carr ep' sh' (.slice a1' n' c1') (.slice b1' n' d1') le') 29)) := heap_kept HO12.out hb13
        have HW13 : Hid (w13.heap[p6]? = some (.cells (rarr ep' sh' (.slice a3 n' c3) le') 25)) := heap_kept HW12.out hb13
        have HC13 : Hid (Cfr w13 (.agg (carr ep' sh' (.slice a1' n' c1') (.slice b1' n' d1') le')) ⟨ep', sh', l, le'⟩) := HC12.out.later hb13
        have HR13 : Hid (Rfr w13 (.agg (rarr ep' sh' (.slice a3 n' c3) le')) ⟨ep', sh', l, le'⟩) := HR12.out.later hb13
        have HB13 : Hid (Below w.heap.size w w13) := HB12.out.trans (hb13.mono HB12.out.size)
        have HV13 : Hid (Own w13 w.heap.size (.slice (some ⟨gs, 0, none⟩) ns cs) (bs ++ bytesC ⟨ep', sh', l, le'⟩)) := HV12.out.later hb13
        have HX13 : Hid (Cfr w13 (.agg (carr ep' sh' (.slice ax n' cx) (.slice bx n' dx) le')) ⟨ep', sh', l, le'⟩) := hX12.later hb13
        have HRD13 : Hid (Rd w13 g11 (some [])) := hrd12.later hb13
        obtain ⟨z0, z1, z2, z3, z4⟩ := five_cells ho13
        clear hb13 ho13 hX12 HV12 HO12 HW12 HC12 HR12 HB12 hrd12
        generalize w12.heap.size = p12 at *
        obtain ⟨x0, x1, x2, x3, x4⟩ := five_cells HO13.out
        obtain ⟨y0, y1, y2, y3⟩ := four_cells HW13.out
        have HS : Hid (∀ w', Below w13.heap.size w13 w' → Below w13.heap.size w13 w' ∧ w'.cell? ⟨p12, 0, none⟩ = some (.int .u64 (ep' : Nat)) ∧ w'.cell? ⟨p12, 1, none⟩ = some (.int .i64 sh') ∧ w'.cell? ⟨p12, 2, none⟩ = some (.slice ax n' cx) ∧ w'.cell? ⟨p12, 3, none⟩ = some (.slice bx n' dx) ∧ w'.cell? ⟨p12, 4, none⟩ = some (.int .i64 le') ∧ w'.cell? ⟨p5, 0, none⟩ = some (.int .u64 (ep' : Nat)) ∧ w'.cell? ⟨p5, 1, none⟩ = some (.int .i64 sh') ∧ w'.cell? ⟨p5, 2, none⟩ = some (.slice a1' n' c1') ∧ w'.cell? ⟨p5, 3, none⟩ = some (.slice b1' n' d1') ∧ w'.cell? ⟨p5, 4, none⟩ = some (.int .i64 le') ∧ w'.cell? ⟨p6, 0, none⟩ = some (.int .u64 (ep' : Nat)) ∧ w'.cell? ⟨p6, 1, none⟩ = some (.int .i64 sh') ∧ w'.cell? ⟨p6, 2, none⟩ = some (.slice a3 n' c3) ∧ w'.cell? ⟨p6, 3, none⟩ = some (.int .i64 le') ∧ (convert 48 9 (.slice (some ⟨ab, aoff, none⟩) len1 cap1)).run Try.prog w' = .ok (.string (str bs)) w' ∧ (convert 48 9 (.slice (some ⟨gs, 0, none⟩) ns cs)).run Try.prog w' = .ok (.string (str (bs ++ bytesC ⟨ep', sh', l, le'⟩))) w' ∧ Rd w' g11 (some [])) := fun w' hb => ⟨hb, cell_later hb z0, cell_later hb z1, cell_later hb z2, cell_later hb z3, cell_later hb z4, cell_later hb x0, cell_later hb x1, cell_later hb x2, cell_later hb x3, cell_later hb x4, cell_later hb y0, cell_later hb y1, cell_later hb y2, cell_later hb y3, conv_row ((HRB.out.later HB13.out).later hb) _, conv_row (HV13.out.row.later hb) _, HRD13.out.later hb⟩
        have ha : ∀ w, (Op.stringOp .add (str bs) (str (bytesC ⟨ep', sh', l, le'⟩))).run Try.prog w = .ok (.string (str (bs ++ bytesC ⟨ep', sh', l, le'⟩))) w := fun w => add_str _ _ w (by rw [hbm]; have := bytesC_len _ HRC.out; omega)
        clear x0 x1 x2 x3 x4 y0 y1 y2 y3 z0 z1 z2 z3 z4
        have hd0 : Below w13.heap.size w13 w13.drew := (Below.refl _ _).drew
        refine wp_region_noPanic ?_
        refine wp_region_held_drew (S := (fun w' => Below w13.heap.size w13 w' ∧ w'.cell? ⟨p12, 0, none⟩ = some (.int .u64 (ep' : Nat)) ∧ w'.cell? ⟨p12, 1, none⟩ = some (.int .i64 sh') ∧ w'.cell? ⟨p12, 2, none⟩ = some (.slice ax n' cx) ∧ w'.cell? ⟨p12, 3, none⟩ = some (.slice bx n' dx) ∧ w'.cell? ⟨p12, 4, none⟩ = some (.int .i64 le') ∧ w'.cell? ⟨p5, 0, none⟩ = some (.int .u64 (ep' : Nat)) ∧ w'.cell? ⟨p5, 1, none⟩ = some (.int .i64 sh') ∧ w'.cell? ⟨p5, 2, none⟩ = some (.slice a1' n' c1') ∧ w'.cell? ⟨p5, 3, none⟩ = some (.slice b1' n' d1') ∧ w'.cell? ⟨p5, 4, none⟩ = some (.int .i64 le') ∧ w'.cell? ⟨p6, 0, none⟩ = some (.int .u64 (ep' : Nat)) ∧ w'.cell? ⟨p6, 1, none⟩ = some (.int .i64 sh') ∧ w'.cell? ⟨p6, 2, none⟩ = some (.slice a3 n' c3) ∧ w'.cell? ⟨p6, 3, none⟩ = some (.int .i64 le') ∧ (convert 48 9 (.slice (some ⟨ab, aoff, none⟩) len1 cap1)).run Try.prog w' = .ok (.string (str bs)) w' ∧ (convert 48 9 (.slice (some ⟨gs, 0, none⟩) ns cs)).run Try.prog w' = .ok (.string (str (bs ++ bytesC ⟨ep', sh', l, le'⟩))) w' ∧ Rd w' g11 (some []))) (by kernel_rfl) ?_ (fun hHeld => ?_)
        · exact HS.out _ hd0
        refine held_take (i := 0) (d := 88) (v := ?_) rfl rfl (by kernel_rfl) (by kernel_rfl) (by kernel_rfl) (fun _ _ _ h => h) (Or.inl ⟨by rfl, ?_⟩) hHeld ?_
        rotate_left
        · (intro w hSw; (try dsimp only at hSw); go_simp; all_goals (with_reducible rfl))
        try simp only [Act.put, List.setIfInBounds_toArray, List.set_cons_zero, List.set_cons_succ]
        refine held_take (i := 1) (d := 89) (v := ?_) rfl rfl (by kernel_rfl) (by kernel_rfl) (by kernel_rfl) (fun _ _ _ h => h) (Or.inl ⟨by rfl, ?_⟩) hHeld ?_
        rotate_left
        · (intro w hSw; (try dsimp only at hSw); go_simp; all_goals (with_reducible rfl))
        try simp only [Act.put, List.setIfInBounds_toArray, List.set_cons_zero, List.set_cons_succ]
        refine held_take (i := 2) (d := 90) (v := ?_) rfl rfl (by kernel_rfl) (by kernel_rfl) (by kernel_rfl) (fun _ _ _ h => h) (Or.inl ⟨by rfl, ?_⟩) hHeld ?_
        rotate_left
        · (intro w hSw; (try dsimp only at hSw); go_simp; all_goals (with_reducible rfl))
        try simp only [Act.put, List.setIfInBounds_toArray, List.set_cons_zero, List.set_cons_succ]
        refine held_take (i := 3) (d := 91) (v := ?_) rfl rfl (by kernel_rfl) (by kernel_rfl) (by kernel_rfl) (fun _ _ _ h => h) (Or.inl ⟨by rfl, ?_⟩) hHeld ?_
        rotate_left
        · (intro w hSw; (try dsimp only at hSw); go_simp; all_goals (with_reducible rfl))
        try simp only [Act.put, List.setIfInBounds_toArray, List.set_cons_zero, List.set_cons_succ]
        refine held_take (i := 4) (d := 92) (v := ?_) rfl rfl (by kernel_rfl) (by kernel_rfl) (by kernel_rfl) (fun _ _ _ h => h) (Or.inl ⟨by rfl, ?_⟩) hHeld ?_
        rotate_left
        · (intro w hSw; (try dsimp only at hSw); go_simp; all_goals (with_reducible rfl))
        try simp only [Act.put, List.setIfInBounds_toArray, List.set_cons_zero, List.set_cons_succ]
        refine wpAnyH_ready (rs := [5]) (by kernel_rfl) (by simp) ?_
        refine AllReadyH.cons rfl (fun K hK => ?_) AllReadyH.nil
        go_simp
        have hq := rput_any _ _ _ (HR13.out.later hd0) HRC.out HEP
        refine hq.mono ?_
        clear hq
        rintro e u1 ⟨⟨v4, rfl, hv4⟩, hu1⟩
        obtain ⟨a4, n4, c4, rfl⟩ : ∃ a n c, v4 = .slice a n c := by obtain ⟨a, n, c, e, -⟩ := hv4.slice; exact ⟨_, _, _, e⟩
        replace hu1 : Below w13.heap.size w13 u1 := hd0.trans hu1
        have r4 := hv4.row
        clear hv4
        go_wp2_with fail
        refine hK.out _ _ ?_ (fun hHeld => ?_)
        · exact HS.out _ hu1
        clear hK K
        try simp only [Act.put, List.setIfInBounds_toArray, List.set_cons_zero, List.set_cons_succ]
        have HS2 : Hid (∀ w', Below u1.heap.size u1 w' → (Below w13.heap.size w13 w' ∧ w'.cell? ⟨p12, 0, none⟩ = some (.int .u64 (ep' : Nat)) ∧ w'.cell? ⟨p12, 1, none⟩ = some (.int .i64 sh') ∧ w'.cell? ⟨p12, 2, none⟩ = some (.slice ax n' cx) ∧ w'.cell? ⟨p12, 3, none⟩ = some (.slice bx n' dx) ∧ w'.cell? ⟨p12, 4, none⟩ = some (.int .i64 le') ∧ w'.cell? ⟨p5, 0, none⟩ = some (.int .u64 (ep' : Nat)) ∧ w'.cell? ⟨p5, 1, none⟩ = some (.int .i64 sh') ∧ w'.cell? ⟨p5, 2, none⟩ = some (.slice a1' n' c1') ∧ w'.cell? ⟨p5, 3, none⟩ = some (.slice b1' n' d1') ∧ w'.cell? ⟨p5, 4, none⟩ = some (.int .i64 le') ∧ w'.cell? ⟨p6, 0, none⟩ = some (.int .u64 (ep' : Nat)) ∧ w'.cell? ⟨p6, 1, none⟩ = some (.int .i64 sh') ∧ w'.cell? ⟨p6, 2, none⟩ = some (.slice a3 n' c3) ∧ w'.cell? ⟨p6, 3, none⟩ = some (.int .i64 le') ∧ (convert 48 9 (.slice (some ⟨ab, aoff, none⟩) len1 cap1)).run Try.prog w' = .ok (.string (str bs)) w' ∧ (convert 48 9 (.slice (some ⟨gs, 0, none⟩) ns cs)).run Try.prog w' = .ok (.string (str (bs ++ bytesC ⟨ep', sh', l, le'⟩))) w' ∧ Rd w' g11 (some [])) ∧ (convert 48 9 (.slice a4 n4 c4)).run Try.prog w' = .ok (.string (str (bytesC ⟨ep', sh', l, le'⟩))) w') := fun w' hb => ⟨HS.out _ (hu1.trans (hb.mono hu1.size)), conv_row (r4.later hb) _⟩
        refine held_mono (S' := (fun w' => (Below w13.heap.size w13 w' ∧ w'.cell? ⟨p12, 0, none⟩ = some (.int .u64 (ep' : Nat)) ∧ w'.cell? ⟨p12, 1, none⟩ = some (.int .i64 sh') ∧ w'.cell? ⟨p12, 2, none⟩ = some (.slice ax n' cx) ∧ w'.cell? ⟨p12, 3, none⟩ = some (.slice bx n' dx) ∧ w'.cell? ⟨p12, 4, none⟩ = some (.int .i64 le') ∧ w'.cell? ⟨p5, 0, none⟩ = some (.int .u64 (ep' : Nat)) ∧ w'.cell? ⟨p5, 1, none⟩ = some (.int .i64 sh') ∧ w'.cell? ⟨p5, 2, none⟩ = some (.slice a1' n' c1') ∧ w'.cell? ⟨p5, 3, none⟩ = some (.slice b1' n' d1') ∧ w'.cell? ⟨p5, 4, none⟩ = some (.int .i64 le') ∧ w'.cell? ⟨p6, 0, none⟩ = some (.int .u64 (ep' : Nat)) ∧ w'.cell? ⟨p6, 1, none⟩ = some (.int .i64 sh') ∧ w'.cell? ⟨p6, 2, none⟩ = some (.slice a3 n' c3) ∧ w'.cell? ⟨p6, 3, none⟩ = some (.int .i64 le') ∧ (convert 48 9 (.slice (some ⟨ab, aoff, none⟩) len1 cap1)).run Try.prog w' = .ok (.string (str bs)) w' ∧ (convert 48 9 (.slice (some ⟨gs, 0, none⟩) ns cs)).run Try.prog w' = .ok (.string (str (bs ++ bytesC ⟨ep', sh', l, le'⟩))) w' ∧ Rd w' g11 (some [])) ∧ (convert 48 9 (.slice a4 n4 c4)).run Try.prog w' = .ok (.string (str (bytesC ⟨ep', sh', l, le'⟩))) w')) (fun _ h => h.1) _ _ _ _ ?_
        replace hHeld := HS2.out _ (Below.refl _ _)
        refine held_take (i := 6) (d := 94) (v := ?_) rfl rfl (by kernel_rfl) (by kernel_rfl) (by kernel_rfl) (fun _ _ _ h => h) (Or.inl ⟨by rfl, ?_⟩) hHeld ?_
        rotate_left
        · (intro w hSw; (try dsimp only at hSw); go_simp; all_goals (with_reducible rfl))
        try simp only [Act.put, List.setIfInBounds_toArray, List.set_cons_zero, List.set_cons_succ]
        refine held_take (i := 7) (d := 95) (v := ?_) rfl rfl (by kernel_rfl) (by kernel_rfl) (by kernel_rfl) (fun _ _ _ h => h) (Or.inl ⟨by rfl, ?_⟩) hHeld ?_
        rotate_left
        · (intro w hSw; (try dsimp only at hSw); go_simp; all_goals (with_reducible rfl))
        try simp only [Act.put, List.setIfInBounds_toArray, List.set_cons_zero, List.set_cons_succ]
        refine held_take (i := 8) (d := 96) (v := ?_) rfl rfl (by kernel_rfl) (by kernel_rfl) (by kernel_rfl) (fun _ _ _ h => h) (Or.inl ⟨by rfl, ?_⟩) hHeld ?_
        rotate_left
        · (intro w hSw; (try dsimp only at hSw); go_simp; all_goals (with_reducible rfl))
        try simp only [Act.put, List.setIfInBounds_toArray, List.set_cons_zero, List.set_cons_succ]
        refine held_take (i := 9) (d := 97) (v := ?_) rfl rfl (by kernel_rfl) (by kernel_rfl) (by kernel_rfl) (fun _ _ _ h => h) (Or.inl ⟨by rfl, ?_⟩) hHeld ?_
        rotate_left
        · (intro w hSw; (try dsimp only at hSw); go_simp; all_goals (with_reducible rfl))
        try simp only [Act.put, List.setIfInBounds_toArray, List.set_cons_zero, List.set_cons_succ]
        refine held_take (i := 10) (d := 98) (v := ?_) rfl rfl (by kernel_rfl) (by kernel_rfl) (by kernel_rfl) (fun _ _ _ h => h) (Or.inl ⟨by rfl, ?_⟩) hHeld ?_
        rotate_left
        · (intro w hSw; (try dsimp only at hSw); go_simp; all_goals (with_reducible rfl))
        try simp only [Act.put, List.setIfInBounds_toArray, List.set_cons_zero, List.set_cons_succ]
        refine held_take (i := 11) (d := 99) (v := ?_) rfl rfl (by kernel_rfl) (by kernel_rfl) (by kernel_rfl) (fun _ _ _ h => h) (Or.inl ⟨by rfl, ?_⟩) hHeld ?_
        rotate_left
        · (intro w hSw; (try dsimp only at hSw); go_simp; all_goals (with_reducible rfl))
        try simp only [Act.put, List.setIfInBounds_toArray, List.set_cons_zero, List.set_cons_succ]
        refine held_take (i := 12) (d := 100) (v := ?_) rfl rfl (by kernel_rfl) (by kernel_rfl) (by kernel_rfl) (fun _ _ _ h => h) (Or.inl ⟨by rfl, ?_⟩) hHeld ?_
        rotate_left
        · (intro w hSw; (try dsimp only at hSw); go_simp; all_goals (with_reducible rfl))
        try simp only [Act.put, List.setIfInBounds_toArray, List.set_cons_zero, List.set_cons_succ]
        refine held_take (i := 13) (d := 101) (v := ?_) rfl rfl (by kernel_rfl) (by kernel_rfl) (by kernel_rfl) (fun _ _ _ h => h) (Or.inl ⟨by rfl, ?_⟩) hHeld ?_
        rotate_left
        · (intro w hSw; (try dsimp only at hSw); go_simp; all_goals (with_reducible rfl))
        try simp only [Act.put, List.setIfInBounds_toArray, List.set_cons_zero, List.set_cons_succ]
        refine held_take (i := 14) (d := 102) (v := ?_) rfl rfl (by kernel_rfl) (by kernel_rfl) (by kernel_rfl) (fun _ _ _ h => h) (Or.inl ⟨by rfl, ?_⟩) hHeld ?_
        rotate_left
        · (intro w hSw; (try dsimp only at hSw); go_simp; all_goals (with_reducible rfl))
        try simp only [Act.put, List.setIfInBounds_toArray, List.set_cons_zero, List.set_cons_succ]
        refine wpAnyH_ready (rs := [15]) (by kernel_rfl) (by simp) ?_
        refine AllReadyH.cons rfl (fun K hK => ?_) AllReadyH.nil
        go_simp
        have hq := same_any _ _ _ _ (HX13.out.later hu1) (HC13.out.later hu1)
        refine hq.mono ?_
        clear hq
        rintro e u2 ⟨rfl, hu2⟩
        go_wp2_with fail
        refine hK.out _ _ ?_ (fun hHeld => ?_)
        · exact HS2.out _ hu2
        clear hK K
        try simp only [Act.put, List.setIfInBounds_toArray, List.set_cons_zero, List.set_cons_succ]
        refine held_take (i := 16) (d := 104) (v := ?_) rfl rfl (by kernel_rfl) (by kernel_rfl) (by kernel_rfl) (fun _ _ _ h => h) (Or.inl ⟨by rfl, ?_⟩) hHeld ?_
        rotate_left
        · (intro w hSw; (try dsimp only at hSw); go_simp; all_goals (with_reducible rfl))
        try simp only [Act.put, List.setIfInBounds_toArray, List.set_cons_zero, List.set_cons_succ]
        refine held_take (i := 17) (d := 105) (v := ?_) rfl rfl (by kernel_rfl) (by kernel_rfl) (by kernel_rfl) (fun _ _ _ h => h) (Or.inl ⟨by rfl, ?_⟩) hHeld ?_
        rotate_left
        · (intro w hSw; (try dsimp only at hSw); go_simp; all_goals (with_reducible rfl))
        try simp only [Act.put, List.setIfInBounds_toArray, List.set_cons_zero, List.set_cons_succ]
        refine held_take (i := 18) (d := 106) (v := ?_) rfl rfl (by kernel_rfl) (by kernel_rfl) (by kernel_rfl) (fun _ _ _ h => h) (Or.inl ⟨by rfl, ?_⟩) hHeld ?_
        rotate_left
        · (intro w hSw; (try dsimp only at hSw); go_simp; all_goals (with_reducible rfl))
        try simp only [Act.put, List.setIfInBounds_toArray, List.set_cons_zero, List.set_cons_succ]
        refine wpAnyH_ready (rs := [19]) (by kernel_rfl) (by simp) ?_
        refine AllReadyH.cons rfl (fun K hK => ?_) AllReadyH.nil
        go_simp
        refine (done_any g11 _ _ hHeld.1.2.2.2.2.2.2.2.2.2.2.2.2.2.2.2.2.2).mono ?_
        rintro e u3 ⟨rfl, hw⟩
        subst u3
        rw [show ((some [] : Option (List Nat)) == some []) = true from rfl]
        go_wp2_with fail
        refine hK.out _ _ ?_ (fun hHeld => ?_)
        · exact HS2.out _ hu2
        clear hK K
        try simp only [Act.put, List.setIfInBounds_toArray, List.set_cons_zero, List.set_cons_succ]
        refine held_take (i := 20) (d := 108) (v := ?_) rfl rfl (by kernel_rfl) (by kernel_rfl) (by kernel_rfl) (fun _ _ _ h => h) (Or.inl ⟨by rfl, ?_⟩) hHeld ?_
        rotate_left
        · (intro w hSw; (try dsimp only at hSw); go_simp; all_goals (with_reducible rfl))
        try simp only [Act.put, List.setIfInBounds_toArray, List.set_cons_zero, List.set_cons_succ]
        refine held_take (i := 21) (d := 109) (v := ?_) rfl rfl (by kernel_rfl) (by kernel_rfl) (by kernel_rfl) (fun _ _ _ h => h) (Or.inl ⟨by rfl, ?_⟩) hHeld ?_
        rotate_left
        · (intro w hSw; (try dsimp only at hSw); go_simp; all_goals (with_reducible rfl))
        try simp only [Act.put, List.setIfInBounds_toArray, List.set_cons_zero, List.set_cons_succ]
        refine wpAnyH_ready (rs := [22]) (by kernel_rfl) (by simp) ?_
        refine AllReadyH.cons rfl (fun K hK => ?_) AllReadyH.nil
        go_simp
        refine (awake_any _).mono ?_
        rintro e u4 ⟨rfl, hu4⟩
        go_wp2_with fail
        refine hK.out _ _ ?_ (fun hHeld => ?_)
        · exact HS2.out _ (hu2.trans (hu4.mono hu2.size))
        clear hK K
        try simp only [Act.put, List.setIfInBounds_toArray, List.set_cons_zero, List.set_cons_succ]
        refine held_take (i := 23) (d := 111) (v := ?_) rfl rfl (by kernel_rfl) (by kernel_rfl) (by kernel_rfl) (fun _ _ _ h => h) (Or.inl ⟨by rfl, ?_⟩) hHeld ?_
        rotate_left
        · (intro w hSw; (try dsimp only at hSw); go_simp; all_goals (with_reducible rfl))
        try simp only [Act.put, List.setIfInBounds_toArray, List.set_cons_zero, List.set_cons_succ]
        refine held_take (i := 24) (d := 4) (v := ?_) rfl rfl (by kernel_rfl) (by kernel_rfl) (by kernel_rfl) (fun _ _ _ h => h) (Or.inl ⟨by rfl, ?_⟩) hHeld ?_
        rotate_left
        · (intro w hSw; (try dsimp only at hSw); go_simp; all_goals (with_reducible rfl))
        try simp only [Act.put, List.setIfInBounds_toArray, List.set_cons_zero, List.set_cons_succ]
        refine wpAnyH_done (by kernel_rfl) ?_ _
        refine NoPanic.normal ?_
        have HA := HB13.out.trans (hu1.mono HB13.out.size)
        have HA2 := HA.trans (hu2.mono HA.size)
        have HA3 := HA2.trans (hu4.mono HA2.size)
        clear hHeld HS HS2 ha
        go_wp2
        go_ret
        exact ⟨rfl, HA3⟩
  · obtain ⟨ab, aoff, rfl⟩ := w1.addr (by omega)
    have HRB : Hid (Row w (some ⟨ab, aoff, none⟩) 60 (firsts z1 60)) := w1.row 60 (by omega)
    generalize firsts z1 60 = bs at HRB
    have HMC : Hid (60 ≤ cap1) := by have := f1.1; show _ ≤ _; omega
    have fm := f1.2.1
    unfold maxLen at fm
    clear w1
    have hb0 : Below w.heap.size w (w.alloc (.cells #[.int .u64 (ep : Nat), .int .i64 sh, .slice a n c, .int .i64 le] 25)) := (Below.refl _ _).alloc (Nat.le_refl _) _
    have hcall := ours_any ep sh le a n c M _ (HM.out.later hb0)
    go_enter Try.func6, Try.ntmps6
    go_wp2_with fail
    generalize w.alloc (.cells #[.int .u64 (ep : Nat), .int .i64 sh, .slice a n c, .int .i64 le] 25) = w0 at *
    refine hcall.mono ?_
    clear hcall
    rintro e w1 ⟨⟨v1, rfl, hv1⟩, hb1⟩
    have HLE : (inC ep sh n M le).l.length ≤ 10 := by simp [inC, fewM_length]; omega
    have HEP : (inC ep sh n M le).ep < 18446744073709551616 := hep
    clear hep
    generalize inC ep sh n M le = cc at hv1 HLE HEP
    obtain ⟨ep', sh', l, le'⟩ := cc
    simp only at HLE HEP
    obtain ⟨a1', c1', b1', d1', rfl, hA, hB, -⟩ := hv1.read
    simp only at hA hB
    have HC1 : Cfr w1 (.agg (carr ep' sh' (.slice a1' l.length c1') (.slice b1' l.length d1') le')) ⟨ep', sh', l, le'⟩ := ⟨_, _, _, _, rfl, hA, hB, by show l.length ≤ 100000; omega⟩
    clear hA hB hv1
    generalize hn' : l.length = n' at *
    have HLN : Hid (l.length = n') := hn'
    clear hn'
    have hb2 : Below w1.heap.size w1 (w1.alloc (.cells (carr ep' sh' (.slice a1' n' c1') (.slice b1' n' d1') le') 29)) := (Below.refl _ _).alloc (Nat.le_refl _) _
    have ho2 := heap_alloc_new w1 (.cells (carr ep' sh' (.slice a1' n' c1') (.slice b1' n' d1') le') 29)
    go_upto_region 4 with fail
    generalize w1.alloc (.cells (carr ep' sh' (.slice a1' n' c1') (.slice b1' n' d1') le') 29) = w2 at *
    have HO2 : Hid (w2.heap[w1.heap.size]? = some (.cells (carr ep' sh' (.slice a1' n' c1') (.slice b1' n' d1') le') 29)) := ho2
    have HC2 : Hid (Cfr w2 (.agg (carr ep' sh' (.slice a1' n' c1') (.slice b1' n' d1') le')) ⟨ep', sh', l, le'⟩) := HC1.later hb2
    have HB2 : Hid (Below w.heap.size w w2) := hb0.trans ((hb1.mono hb0.size).trans (hb2.mono (by have := hb1.size; have := hb0.size; omega)))
    have HP5 : Hid (w.heap.size ≤ w1.heap.size) := by have := hb1.size; have := hb0.size; show _ ≤ _; omega
    clear hb0 hb1 hb2 ho2 HC1
    generalize w1.heap.size = p5 at *
    obtain ⟨x0, x1, x2, x3, x4⟩ := five_cells HO2.out
    have hcall := plain_any _ _ _ HC2.out (by show l.length ≤ 900; rw [HLN.out]; omega)
    go_wp2_with fail
    refine hcall.mono ?_
    clear hcall x0 x1 x2 x3 x4
    rintro e w3 ⟨⟨v3, rfl, hv3⟩, hb3⟩
    obtain ⟨a3, c3, rfl, hL3, -⟩ := hv3.read
    simp only at hL3
    rw [HLN.out]
    have hr3 : Rfr w3 (.agg (rarr ep' sh' (.slice a3 n' c3) le')) ⟨ep', sh', l, le'⟩ := ⟨a3, c3, by rw [HLN.out], hL3, by show l.length ≤ 100000; rw [HLN.out]; omega⟩
    have hb4 : Below w3.heap.size w3 (w3.alloc (.cells (rarr ep' sh' (.slice a3 n' c3) le') 25)) := (Below.refl _ _).alloc (Nat.le_refl _) _
    have hw4 := heap_alloc_new w3 (.cells (rarr ep' sh' (.slice a3 n' c3) le') 25)
    go_upto_region 5 with fail
    generalize w3.alloc (.cells (rarr ep' sh' (.slice a3 n' c3) le') 25) = w4 at *
    have hb24 : Below w2.heap.size w2 w4 := hb3.trans (hb4.mono hb3.size)
    have HO4 : Hid (w4.heap[p5]? = some (.cells (carr ep' sh' (.slice a1' n' c1') (.slice b1' n' d1') le') 29)) := heap_kept HO2.out hb24
    have HW4 : Hid (w4.heap[w3.heap.size]? = some (.cells (rarr ep' sh' (.slice a3 n' c3) le') 25)) := hw4
    have HC4 : Hid (Cfr w4 (.agg (carr ep' sh' (.slice a1' n' c1') (.slice b1' n' d1') le')) ⟨ep', sh', l, le'⟩) := HC2.out.later hb24
    have HR4 : Hid (Rfr w4 (.agg (rarr ep' sh' (.slice a3 n' c3) le')) ⟨ep', sh', l, le'⟩) := hr3.later hb4
    have HB4 : Hid (Below w.heap.size w w4) := HB2.out.trans (hb24.mono HB2.out.size)
    have HP6 : Hid (w.heap.size ≤ w3.heap.size) := HB2.out.trans (hb3.mono HB2.out.size) |>.size
    clear hb3 hb4 hw4 hb24 hr3 hL3 hv3 HO2 HC2 HB2
    generalize w3.heap.size = p6 at *
    obtain ⟨S, hS⟩ : ∃ S, S = bs ++ if rightB ⟨ep', sh', l, le'⟩ then bytesC ⟨ep', sh', l, le'⟩ else [] := ⟨_, rfl⟩
    have HSE : Hid (S = bs ++ if rightB ⟨ep', sh', l, le'⟩ then bytesC ⟨ep', sh', l, le'⟩ else []) := hS
    have hcall := put_conf (some ⟨ab, aoff, none⟩) 60 cap1 bs _ _ w4 (HRB.out.later HB4.out) f1.2.2 (by omega) HC4.out HEP
    rw [← hS] at hcall
    clear hS
    obtain ⟨x0, x1, x2, x3, x4⟩ := five_cells HO4.out
    go_wp2_with fail
    refine hcall.mono ?_
    clear hcall x0 x1 x2 x3 x4
    rintro e w5 ⟨⟨v5, rfl, hv5⟩, hb5⟩
    obtain ⟨aS, ns, cs, rfl⟩ : ∃ a n c, v5 = .slice a n c := by obtain ⟨a, n, c, e, -⟩ := hv5.slice; exact ⟨_, _, _, e⟩
    have HV5 : Hid (Own w5 w.heap.size (.slice aS ns cs) S) := hv5.mono HB4.out.size
    clear hv5
    have HO5 : Hid (w5.heap[p5]? = some (.cells (carr ep' sh' (.slice a1' n' c1') (.slice b1' n' d1') le') 29)) := heap_kept HO4.out hb5
    have HW5 : Hid (w5.heap[p6]? = some (.cells (rarr ep' sh' (.slice a3 n' c3) le') 25)) := heap_kept HW4.out hb5
    have HC5 : Hid (Cfr w5 (.agg (carr ep' sh' (.slice a1' n' c1') (.slice b1' n' d1') le')) ⟨ep', sh', l, le'⟩) := HC4.out.later hb5
    have HR5 : Hid (Rfr w5 (.agg (rarr ep' sh' (.slice a3 n' c3) le')) ⟨ep', sh', l, le'⟩) := HR4.out.later hb5
    have HB5 : Hid (Below w.heap.size w w5) := HB4.out.trans (hb5.mono HB4.out.size)
    clear hb5 HO4 HW4 HC4 HR4 HB4
    have hcall := new_any (some ⟨ab, aoff, none⟩) 60 cap1 bs w5 (HRB.out.later HB5.out) f1.2.2 (by omega)
    go_wp2_with fail
    refine hcall.mono ?_
    clear hcall
    rintro e w6 ⟨g6, rfl, hrd6, hg6, hb6⟩
    have HG6 : Hid (w5.heap.size ≤ g6) := hg6
    have HGL : Hid (g6 < w6.heap.size) := hrd6.lt
    have HB56 : Hid (Below w5.heap.size w5 w6) := hb6
    have HS6 : Hid (w5.heap.size ≤ w6.heap.size) := hb6.size
    clear hg6 hb6
    cases hok : readOk (some bs) with
    | false =>
      have hq := read_no g6 bs w6 hrd6 hok
      clear hrd6 hok
      obtain ⟨zc, hzc⟩ : ∃ zc, zc = zeroC := ⟨_, rfl⟩
      rw [← hzc] at hq
      have HZC : Hid (zc = zeroC) := hzc
      clear hzc
      obtain ⟨epd, shd, ld, led⟩ := zc
      have hcall := hq
      go_wp2_with fail
      refine hcall.mono ?_
      clear hcall
      rintro e w7 ⟨⟨v7, rfl, hv7⟩, ho7⟩
      have hb67 : Below w5.heap.size w5 w7 := HB56.out.trans (ho7.below HG6.out HS6.out)
      have HO7 : Hid (w7.heap[p5]? = some (.cells (carr ep' sh' (.slice a1' n' c1') (.slice b1' n' d1') le') 29)) := heap_kept HO5.out hb67
      have HW7 : Hid (w7.heap[p6]? = some (.cells (rarr ep' sh' (.slice a3 n' c3) le') 25)) := heap_kept HW5.out hb67
      have HC7 : Hid (Cfr w7 (.agg (carr ep' sh' (.slice a1' n' c1') (.slice b1' n' d1') le')) ⟨ep', sh', l, le'⟩) := HC5.out.later hb67
      have HR7 : Hid (Rfr w7 (.agg (rarr ep' sh' (.slice a3 n' c3) le')) ⟨ep', sh', l, le'⟩) := HR5.out.later hb67
      have HB7 : Hid (Below w.heap.size w w7) := HB5.out.trans (hb67.mono HB5.out.size)
      have HV7 : Hid (Own w7 w.heap.size (.slice aS ns cs) S) := HV5.out.later hb67
      clear hq
      have HS7 : Hid (g6 < w7.heap.size) := Nat.lt_of_lt_of_le HGL.out ho7.size
      clear hb67 ho7 HB56 HV5 HO5 HW5 HC5 HR5 HB5
      obtain ⟨ad, cd, bd, dd', rfl, hA, hB, hld⟩ := hv7.read
      simp only at hA hB hld
      have hC7 : Cfr w7 (.agg (carr epd shd (.slice ad ld.length cd) (.slice bd ld.length dd') led)) ⟨epd, shd, ld, led⟩ := ⟨_, _, _, _, rfl, hA, hB, by show ld.length ≤ 100000; exact hld⟩
      clear hA hB hld hv7
      generalize hnd : ld.length = nd at *
      have HLD : Hid (ld.length = nd) := hnd
      clear hnd
      have hb8 : Below w7.heap.size w7 (w7.alloc (.cells (carr epd shd (.slice ad nd cd) (.slice bd nd dd') led) 29)) := (Below.refl _ _).alloc (Nat.le_refl _) _
      have ho8 := heap_alloc_new w7 (.cells (carr epd shd (.slice ad nd cd) (.slice bd nd dd') led) 29)
      go_upto_region 8 with fail
      generalize w7.alloc (.cells (carr epd shd (.slice ad nd cd) (.slice bd nd dd') led) 29) = w8 at *
      have HO8 : Hid (w8.heap[p5]? = some (.cells (carr ep' sh' (.slice a1' n' c1') (.slice b1' n' d1') le') 29)) := heap_kept HO7.out hb8
      have HW8 : Hid (w8.heap[p6]? = some (.cells (rarr ep' sh' (.slice a3 n' c3) le') 25)) := heap_kept HW7.out hb8
      have HC8 : Hid (Cfr w8 (.agg (carr ep' sh' (.slice a1' n' c1') (.slice b1' n' d1') le')) ⟨ep', sh', l, le'⟩) := HC7.out.later hb8
      have HR8 : Hid (Rfr w8 (.agg (rarr ep' sh' (.slice a3 n' c3) le')) ⟨ep', sh', l, le'⟩) := HR7.out.later hb8
      have HB8 : Hid (Below w.heap.size w w8) := HB7.out.trans (hb8.mono HB7.out.size)
      have HV8 : Hid (Own w8 w.heap.size (.slice aS ns cs) S) := HV7.out.later hb8
      have HD8 : Hid (w8.heap[w7.heap.size]? = some (.cells (carr epd shd (.slice ad nd cd) (.slice bd nd dd') led) 29)) := ho8
      have HCD8 : Hid (Cfr w8 (.agg (carr epd shd (.slice ad nd cd) (.slice bd nd dd') led)) ⟨epd, shd, ld, led⟩) := hC7.later hb8
      
      clear hb8 ho8 hC7 HV7 HO7 HW7 HC7 HR7 HB7
      generalize w7.heap.size = p9 at *
      obtain ⟨x0, x1, x2, x3, x4⟩ := five_cells HD8.out
      have HS : Hid (∀ w', Below w8.heap.size w8 w' → Below w8.heap.size w8 w' ∧ w'.cell? ⟨p9, 0, none⟩ = some (.int .u64 (epd : Nat)) ∧ w'.cell? ⟨p9, 1, none⟩ = some (.int .i64 shd) ∧ w'.cell? ⟨p9, 2, none⟩ = some (.slice ad nd cd) ∧ w'.cell? ⟨p9, 3, none⟩ = some (.slice bd nd dd') ∧ w'.cell? ⟨p9, 4, none⟩ = some (.int .i64 led)) := fun w' hb => ⟨hb, cell_later hb x0, cell_later hb x1, cell_later hb x2, cell_later hb x3, cell_later hb x4⟩
      clear x0 x1 x2 x3 x4
      have hd0 : Below w8.heap.size w8 w8.drew := (Below.refl _ _).drew
      refine wp_region_noPanic ?_
      refine wp_region_held_drew (S := (fun w' => Below w8.heap.size w8 w' ∧ w'.cell? ⟨p9, 0, none⟩ = some (.int .u64 (epd : Nat)) ∧ w'.cell? ⟨p9, 1, none⟩ = some (.int .i64 shd) ∧ w'.cell? ⟨p9, 2, none⟩ = some (.slice ad nd cd) ∧ w'.cell? ⟨p9, 3, none⟩ = some (.slice bd nd dd') ∧ w'.cell? ⟨p9, 4, none⟩ = some (.int .i64 led))) (by kernel_rfl) ?_ (fun hHeld => ?_)
      · exact HS.out _ hd0
      refine held_take (i := 0) (d := 33) (v := ?_) rfl rfl (by kernel_rfl) (by kernel_rfl) (by kernel_rfl) (fun _ _ _ h => h) (Or.inl ⟨by rfl, ?_⟩) hHeld ?_
      rotate_left
      · (intro w hSw; (try dsimp only at hSw); go_simp; all_goals (with_reducible rfl))
      try simp only [Act.put, List.setIfInBounds_toArray, List.set_cons_zero, List.set_cons_succ]
      refine held_take (i := 1) (d := 34) (v := ?_) rfl rfl (by kernel_rfl) (by kernel_rfl) (by kernel_rfl) (fun _ _ _ h => h) (Or.inl ⟨by rfl, ?_⟩) hHeld ?_
      rotate_left
      · (intro w hSw; (try dsimp only at hSw); go_simp; all_goals (with_reducible rfl))
      try simp only [Act.put, List.setIfInBounds_toArray, List.set_cons_zero, List.set_cons_succ]
      refine held_take (i := 2) (d := 35) (v := undef) rfl rfl (by kernel_rfl) (by kernel_rfl) (by kernel_rfl) (fun _ _ _ h => h) (Or.inr ⟨by rfl, rfl⟩) hHeld ?_
      try simp only [Act.put, List.setIfInBounds_toArray, List.set_cons_zero, List.set_cons_succ]
      refine held_take (i := 3) (d := 36) (v := undef) rfl rfl (by kernel_rfl) (by kernel_rfl) (by kernel_rfl) (fun _ _ _ h => h) (Or.inr ⟨by rfl, rfl⟩) hHeld ?_
      try simp only [Act.put, List.setIfInBounds_toArray, List.set_cons_zero, List.set_cons_succ]
      refine held_take (i := 4) (d := 37) (v := undef) rfl rfl (by kernel_rfl) (by kernel_rfl) (by kernel_rfl) (fun _ _ _ h => h) (Or.inr ⟨by rfl, rfl⟩) hHeld ?_
      try simp only [Act.put, List.setIfInBounds_toArray, List.set_cons_zero, List.set_cons_succ]
      refine held_take (i := 5) (d := 38) (v := undef) rfl rfl (by kernel_rfl) (by kernel_rfl) (by kernel_rfl) (fun _ _ _ h => h) (Or.inr ⟨by rfl, rfl⟩) hHeld ?_
      try simp only [Act.put, List.setIfInBounds_toArray, List.set_cons_zero, List.set_cons_succ]
      refine held_take (i := 6) (d := 39) (v := undef) rfl rfl (by kernel_rfl) (by kernel_rfl) (by kernel_rfl) (fun _ _ _ h => h) (Or.inr ⟨by rfl, rfl⟩) hHeld ?_
      try simp only [Act.put, List.setIfInBounds_toArray, List.set_cons_zero, List.set_cons_succ]
      refine held_take (i := 7) (d := 40) (v := undef) rfl rfl (by kernel_rfl) (by kernel_rfl) (by kernel_rfl) (fun _ _ _ h => h) (Or.inr ⟨by rfl, rfl⟩) hHeld ?_
      try simp only [Act.put, List.setIfInBounds_toArray, List.set_cons_zero, List.set_cons_succ]
      refine held_take (i := 8) (d := 41) (v := undef) rfl rfl (by kernel_rfl) (by kernel_rfl) (by kernel_rfl) (fun _ _ _ h => h) (Or.inr ⟨by rfl, rfl⟩) hHeld ?_
      try simp only [Act.put, List.setIfInBounds_toArray, List.set_cons_zero, List.set_cons_succ]
      refine held_take (i := 9) (d := 42) (v := undef) rfl rfl (by kernel_rfl) (by kernel_rfl) (by kernel_rfl) (fun _ _ _ h => h) (Or.inr ⟨by rfl, rfl⟩) hHeld ?_
      try simp only [Act.put, List.setIfInBounds_toArray, List.set_cons_zero, List.set_cons_succ]
      refine held_take (i := 10) (d := 43) (v := undef) rfl rfl (by kernel_rfl) (by kernel_rfl) (by kernel_rfl) (fun _ _ _ h => h) (Or.inr ⟨by rfl, rfl⟩) hHeld ?_
      try simp only [Act.put, List.setIfInBounds_toArray, List.set_cons_zero, List.set_cons_succ]
      refine held_take (i := 11) (d := 44) (v := undef) rfl rfl (by kernel_rfl) (by kernel_rfl) (by kernel_rfl) (fun _ _ _ h => h) (Or.inr ⟨by rfl, rfl⟩) hHeld ?_
      try simp only [Act.put, List.setIfInBounds_toArray, List.set_cons_zero, List.set_cons_succ]
      refine held_take (i := 12) (d := 45) (v := undef) rfl rfl (by kernel_rfl) (by kernel_rfl) (by kernel_rfl) (fun _ _ _ h => h) (Or.inr ⟨by rfl, rfl⟩) hHeld ?_
      try simp only [Act.put, List.setIfInBounds_toArray, List.set_cons_zero, List.set_cons_succ]
      refine held_take (i := 13) (d := 46) (v := undef) rfl rfl (by kernel_rfl) (by kernel_rfl) (by kernel_rfl) (fun _ _ _ h => h) (Or.inr ⟨by rfl, rfl⟩) hHeld ?_
      try simp only [Act.put, List.setIfInBounds_toArray, List.set_cons_zero, List.set_cons_succ]
      refine held_take (i := 14) (d := 47) (v := undef) rfl rfl (by kernel_rfl) (by kernel_rfl) (by kernel_rfl) (fun _ _ _ h => h) (Or.inr ⟨by rfl, rfl⟩) hHeld ?_
      try simp only [Act.put, List.setIfInBounds_toArray, List.set_cons_zero, List.set_cons_succ]
      refine held_take (i := 15) (d := 48) (v := undef) rfl rfl (by kernel_rfl) (by kernel_rfl) (by kernel_rfl) (fun _ _ _ h => h) (Or.inr ⟨by rfl, rfl⟩) hHeld ?_
      try simp only [Act.put, List.setIfInBounds_toArray, List.set_cons_zero, List.set_cons_succ]
      refine held_take (i := 16) (d := 49) (v := undef) rfl rfl (by kernel_rfl) (by kernel_rfl) (by kernel_rfl) (fun _ _ _ h => h) (Or.inr ⟨by rfl, rfl⟩) hHeld ?_
      try simp only [Act.put, List.setIfInBounds_toArray, List.set_cons_zero, List.set_cons_succ]
      refine held_take (i := 17) (d := 50) (v := undef) rfl rfl (by kernel_rfl) (by kernel_rfl) (by kernel_rfl) (fun _ _ _ h => h) (Or.inr ⟨by rfl, rfl⟩) hHeld ?_
      try simp only [Act.put, List.setIfInBounds_toArray, List.set_cons_zero, List.set_cons_succ]
      refine held_take (i := 18) (d := 51) (v := undef) rfl rfl (by kernel_rfl) (by kernel_rfl) (by kernel_rfl) (fun _ _ _ h => h) (Or.inr ⟨by rfl, rfl⟩) hHeld ?_
      try simp only [Act.put, List.setIfInBounds_toArray, List.set_cons_zero, List.set_cons_succ]
      refine held_take (i := 19) (d := 52) (v := undef) rfl rfl (by kernel_rfl) (by kernel_rfl) (by kernel_rfl) (fun _ _ _ h => h) (Or.inr ⟨by rfl, rfl⟩) hHeld ?_
      try simp only [Act.put, List.setIfInBounds_toArray, List.set_cons_zero, List.set_cons_succ]
      refine held_take (i := 20) (d := 53) (v := undef) rfl rfl (by kernel_rfl) (by kernel_rfl) (by kernel_rfl) (fun _ _ _ h => h) (Or.inr ⟨by rfl, rfl⟩) hHeld ?_
      try simp only [Act.put, List.setIfInBounds_toArray, List.set_cons_zero, List.set_cons_succ]
      refine held_take (i := 21) (d := 54) (v := undef) rfl rfl (by kernel_rfl) (by kernel_rfl) (by kernel_rfl) (fun _ _ _ h => h) (Or.inr ⟨by rfl, rfl⟩) hHeld ?_
      try simp only [Act.put, List.setIfInBounds_toArray, List.set_cons_zero, List.set_cons_succ]
      refine held_take (i := 22) (d := 55) (v := undef) rfl rfl (by kernel_rfl) (by kernel_rfl) (by kernel_rfl) (fun _ _ _ h => h) (Or.inr ⟨by rfl, rfl⟩) hHeld ?_
      try simp only [Act.put, List.setIfInBounds_toArray, List.set_cons_zero, List.set_cons_succ]
      refine held_take (i := 23) (d := 56) (v := ?_) rfl rfl (by kernel_rfl) (by kernel_rfl) (by kernel_rfl) (fun _ _ _ h => h) (Or.inl ⟨by rfl, ?_⟩) hHeld ?_
      rotate_left
      · (intro w hSw; (try dsimp only at hSw); go_simp; all_goals (with_reducible rfl))
      try simp only [Act.put, List.setIfInBounds_toArray, List.set_cons_zero, List.set_cons_succ]
      refine held_take (i := 24) (d := 57) (v := ?_) rfl rfl (by kernel_rfl) (by kernel_rfl) (by kernel_rfl) (fun _ _ _ h => h) (Or.inl ⟨by rfl, ?_⟩) hHeld ?_
      rotate_left
      · (intro w hSw; (try dsimp only at hSw); go_simp; all_goals (with_reducible rfl))
      try simp only [Act.put, List.setIfInBounds_toArray, List.set_cons_zero, List.set_cons_succ]
      refine held_take (i := 25) (d := 58) (v := ?_) rfl rfl (by kernel_rfl) (by kernel_rfl) (by kernel_rfl) (fun _ _ _ h => h) (Or.inl ⟨by rfl, ?_⟩) hHeld ?_
      rotate_left
      · (intro w hSw; (try dsimp only at hSw); go_simp; all_goals (with_reducible rfl))
      try simp only [Act.put, List.setIfInBounds_toArray, List.set_cons_zero, List.set_cons_succ]
      refine held_take (i := 26) (d := 59) (v := ?_) rfl rfl (by kernel_rfl) (by kernel_rfl) (by kernel_rfl) (fun _ _ _ h => h) (Or.inl ⟨by rfl, ?_⟩) hHeld ?_
      rotate_left
      · (intro w hSw; (try dsimp only at hSw); go_simp; all_goals (with_reducible rfl))
      try simp only [Act.put, List.setIfInBounds_toArray, List.set_cons_zero, List.set_cons_succ]
      refine held_take (i := 27) (d := 60) (v := ?_) rfl rfl (by kernel_rfl) (by kernel_rfl) (by kernel_rfl) (fun _ _ _ h => h) (Or.inl ⟨by rfl, ?_⟩) hHeld ?_
      rotate_left
      · (intro w hSw; (try dsimp only at hSw); go_simp; all_goals (with_reducible rfl))
      try simp only [Act.put, List.setIfInBounds_toArray, List.set_cons_zero, List.set_cons_succ]
      refine held_take (i := 28) (d := 61) (v := ?_) rfl rfl (by kernel_rfl) (by kernel_rfl) (by kernel_rfl) (fun _ _ _ h => h) (Or.inl ⟨by rfl, ?_⟩) hHeld ?_
      rotate_left
      · (intro w hSw; (try dsimp only at hSw); go_simp; all_goals (with_reducible rfl))
      try simp only [Act.put, List.setIfInBounds_toArray, List.set_cons_zero, List.set_cons_succ]
      refine held_take (i := 29) (d := 62) (v := ?_) rfl rfl (by kernel_rfl) (by kernel_rfl) (by kernel_rfl) (fun _ _ _ h => h) (Or.inl ⟨by rfl, ?_⟩) hHeld ?_
      rotate_left
      · (intro w hSw; (try dsimp only at hSw); go_simp; all_goals (with_reducible rfl))
      try simp only [Act.put, List.setIfInBounds_toArray, List.set_cons_zero, List.set_cons_succ]
      refine wpAnyH_ready (rs := [30]) (by kernel_rfl) (by simp) ?_
      refine AllReadyH.cons rfl (fun K hK => ?_) AllReadyH.nil
      go_simp
      have hq := same_any _ _ _ _ (HCD8.out.later hd0) (by rw [HZC.out]; exact zero_cfr _)
      refine hq.mono ?_
      clear hq
      rintro e u1 ⟨rfl, hu1⟩
      replace hu1 : Below w8.heap.size w8 u1 := hd0.trans hu1
      go_wp2_with fail
      refine hK.out _ _ ?_ (fun hHeld => ?_)
      · exact HS.out _ hu1
      clear hK K
      try simp only [Act.put, List.setIfInBounds_toArray, List.set_cons_zero, List.set_cons_succ]
      refine held_take (i := 31) (d := 64) (v := ?_) rfl rfl (by kernel_rfl) (by kernel_rfl) (by kernel_rfl) (fun _ _ _ h => h) (Or.inl ⟨by rfl, ?_⟩) hHeld ?_
      rotate_left
      · (intro w hSw; (try dsimp only at hSw); go_simp; all_goals (with_reducible rfl))
      try simp only [Act.put, List.setIfInBounds_toArray, List.set_cons_zero, List.set_cons_succ]
      refine held_take (i := 32) (d := 65) (v := ?_) rfl rfl (by kernel_rfl) (by kernel_rfl) (by kernel_rfl) (fun _ _ _ h => h) (Or.inl ⟨by rfl, ?_⟩) hHeld ?_
      rotate_left
      · (intro w hSw; (try dsimp only at hSw); go_simp; all_goals (with_reducible rfl))
      try simp only [Act.put, List.setIfInBounds_toArray, List.set_cons_zero, List.set_cons_succ]
      refine held_take (i := 33) (d := 66) (v := ?_) rfl rfl (by kernel_rfl) (by kernel_rfl) (by kernel_rfl) (fun _ _ _ h => h) (Or.inl ⟨by rfl, ?_⟩) hHeld ?_
      rotate_left
      · (intro w hSw; (try dsimp only at hSw); go_simp; all_goals (with_reducible rfl))
      try simp only [Act.put, List.setIfInBounds_toArray, List.set_cons_zero, List.set_cons_succ]
      refine wpAnyH_done (by kernel_rfl) ?_ _
      refine NoPanic.normal ?_
      have hb9 : Below w8.heap.size w8 u1 := hu1
      clear HS hHeld hu1 hd0
      have HO9 : Hid (u1.heap[p5]? = some (.cells (carr ep' sh' (.slice a1' n' c1') (.slice b1' n' d1') le') 29)) := heap_kept HO8.out hb9
      have HW9 : Hid (u1.heap[p6]? = some (.cells (rarr ep' sh' (.slice a3 n' c3) le') 25)) := heap_kept HW8.out hb9
      have HC9 : Hid (Cfr u1 (.agg (carr ep' sh' (.slice a1' n' c1') (.slice b1' n' d1') le')) ⟨ep', sh', l, le'⟩) := HC8.out.later hb9
      have HR9 : Hid (Rfr u1 (.agg (rarr ep' sh' (.slice a3 n' c3) le')) ⟨ep', sh', l, le'⟩) := HR8.out.later hb9
      have HB9 : Hid (Below w.heap.size w u1) := HB8.out.trans (hb9.mono HB8.out.size)
      have HV9 : Hid (Own u1 w.heap.size (.slice aS ns cs) S) := HV8.out.later hb9
      clear HV8 HO8 HW8 HC8 HR8 HB8 hb9 HCD8 HD8 HZC
      generalize u1 = w9 at *
      have hcall := rright_any _ _ _ HR9.out
      obtain ⟨y0, y1, y2, y3⟩ := four_cells HW9.out
      go_wp2_with fail
      refine hcall.mono ?_
      clear hcall y0 y1 y2 y3
      rintro e w10 ⟨rfl, hb10⟩
      have HO10 : Hid (w10.heap[p5]? = some (.cells (carr ep' sh' (.slice a1' n' c1') (.slice b1' n' d1') le') 29)) := heap_kept HO9.out hb10
      have HW10 : Hid (w10.heap[p6]? = some (.cells (rarr ep' sh' (.slice a3 n' c3) le') 25)) := heap_kept HW9.out hb10
      have HC10 : Hid (Cfr w10 (.agg (carr ep' sh' (.slice a1' n' c1') (.slice b1' n' d1') le')) ⟨ep', sh', l, le'⟩) := HC9.out.later hb10
      have HR10 : Hid (Rfr w10 (.agg (rarr ep' sh' (.slice a3 n' c3) le')) ⟨ep', sh', l, le'⟩) := HR9.out.later hb10
      have HB10 : Hid (Below w.heap.size w w10) := HB9.out.trans (hb10.mono HB9.out.size)
      have HV10 : Hid (Own w10 w.heap.size (.slice aS ns cs) S) := HV9.out.later hb10
      clear hb10 HV9 HO9 HW9 HC9 HR9 HB9
      cases hrc : rightB ⟨ep', sh', l, le'⟩ with
      | false =>
        have hSb : S = bs := by rw [HSE.out, hrc]; simp
        subst hSb
        have c1 := conv_row HV10.out.row cs
        have c2 := conv_row (HRB.out.later HB10.out) cap1
        go_wp2_with fail
        refine (awake_any _).mono ?_
        rintro e wf ⟨rfl, hbf⟩
        have HBF : Hid (Below w.heap.size w wf) := HB10.out.trans (hbf.mono HB10.out.size)
        clear hbf c1 c2
        go_wp2
        go_ret
        exact ⟨rfl, HBF.out⟩
      | true =>
        have HRC : Hid (rightB ⟨ep', sh', l, le'⟩ = true) := hrc
        have hSb : S = bs ++ bytesC ⟨ep', sh', l, le'⟩ := by rw [HSE.out, hrc]; simp
        clear hrc HSE
        subst hSb
        have hbp := bytesC_pos ⟨ep', sh', l, le'⟩
        obtain ⟨gs, ns', cs', e9, hns, -, hgs, hnc, hcm⟩ := HV10.out.form (by intro e; rw [List.append_eq_nil_iff] at e; rw [e.2] at hbp; simp at hbp)
        simp only [Value.slice.injEq] at e9
        obtain ⟨rfl, rfl, rfl⟩ := e9
        have hbm : bs.length = 60 := HRB.out.1
        rw [List.length_append, hbm] at hns
        have rd10 := HV10.out.row.drop 60 (by omega)
        rw [show List.drop 60 (bs ++ bytesC ⟨ep', sh', l, le'⟩) = bytesC ⟨ep', sh', l, le'⟩ by rw [← hbm, List.drop_left]] at rd10
        simp only [Nat.zero_add] at rd10
        have hz1 : ¬ ((60 : Int) < 0) := by omega
        have hz2 : 60 ≤ ns := by omega
        have hz3 : ¬ cs = 60 := by omega
        have hz4 : (60 : Int) ≤ (ns : Int) := by omega
        have HQ0 : Hid (ns = 60 + (bytesC ⟨ep', sh', l, le'⟩).length) := hns
        have hcall := new_any _ (ns - 60) (cs - 60) _ _ rd10 (by simp) (by have : (bytesC ⟨ep', sh', l, le'⟩).length ≤ 1000 := bytesC_len _ HRC.out; omega)
        clear rd10 hns hbp hcm
        go_wp2_with fail
        refine hcall.mono ?_
        clear hcall
        rintro e w11 ⟨g11, rfl, hrd, hg11, hb11⟩
        have HB1011 : Hid (Below w10.heap.size w10 w11) := hb11
        have HG11 : Hid (w10.heap.size ≤ g11) := hg11
        have HS11 : Hid (w10.heap.size ≤ w11.heap.size) := hb11.size
        have hcall := read_put g11 ⟨ep', sh', l, le'⟩ w11 hrd HRC.out HEP
        clear hb11 hg11 hrd
        go_wp2_with fail
        refine hcall.mono ?_
        clear hcall
        rintro e w12 ⟨⟨v12, rfl, hv12⟩, hrd12, ho12⟩
        have hb12 : Below w10.heap.size w10 w12 := HB1011.out.trans (ho12.below HG11.out HS11.out)
        have HO12 : Hid (w12.heap[p5]? = some (.cells (carr ep' sh' (.slice a1' n' c1') (.slice b1' n' d1') le') 29)) := heap_kept HO10.out hb12
        have HW12 : Hid (w12.heap[p6]? = some (.cells (rarr ep' sh' (.slice a3 n' c3) le') 25)) := heap_kept HW10.out hb12
        have HC12 : Hid (Cfr w12 (.agg (carr ep' sh' (.slice a1' n' c1') (.slice b1' n' d1') le')) ⟨ep', sh', l, le'⟩) := HC10.out.later hb12
        have HR12 : Hid (Rfr w12 (.agg (rarr ep' sh' (.slice a3 n' c3) le')) ⟨ep', sh', l, le'⟩) := HR10.out.later hb12
        have HB12 : Hid (Below w.heap.size w w12) := HB10.out.trans (hb12.mono HB10.out.size)
        have HV12 : Hid (Own w12 w.heap.size (.slice (some ⟨gs, 0, none⟩) ns cs) (bs ++ bytesC ⟨ep', sh', l, le'⟩)) := HV10.out.later hb12
        clear hb12 ho12 HV10 HO10 HW10 HC10 HR10 HB10 HB1011
        obtain ⟨ax, cx, bx, dx, rfl, hA, hB, hlx⟩ := hv12.read
        simp only at hA hB hlx
        have hX12 : Cfr w12 (.agg (carr ep' sh' (.slice ax l.length cx) (.slice bx l.length dx) le')) ⟨ep', sh', l, le'⟩ := ⟨_, _, _, _, rfl, hA, hB, hlx⟩
        clear hA hB hlx hv12
        rw [HLN.out] at hX12
        rw [HLN.out]
        have hb13 : Below w12.heap.size w12 (w12.alloc (.cells (carr ep' sh' (.slice ax n' cx) (.slice bx n' dx) le') 29)) := (Below.refl _ _).alloc (Nat.le_refl _) _
        have ho13 := heap_alloc_new w12 (.cells (carr ep' sh' (.slice ax n' cx) (.slice bx n' dx) le') 29)
        go_upto_region 14 with fail
        generalize w12.alloc (.cells (carr ep' sh' (.slice ax n' cx) (.slice bx n' dx) le') 29) = w13 at *
        have HO13 : Hid (w13.heap[p5]? = some (.cells (carr ep' sh' (.slice a1' n' c1') (.slice b1' n' d1') le') 29)) := heap_kept HO12.out hb13
        have HW13 : Hid (w13.heap[p6]? = some (.cells (rarr ep' sh' (.slice a3 n' c3) le') 25)) := heap_kept HW12.out hb13
        have HC13 : Hid (Cfr w13 (.agg (carr ep' sh' (.slice a1' n' c1') (.slice b1' n' d1') le')) ⟨ep', sh', l, le'⟩) := HC12.out.later hb13
        have HR13 : Hid (Rfr w13 (.agg (rarr ep' sh' (.slice a3 n' c3) le')) ⟨ep', sh', l, le'⟩) := HR12.out.later hb13
        have HB13 : Hid (Below w.heap.size w w13) := HB12.out.trans (hb13.mono HB12.out.size)
        have HV13 : Hid (Own w13 w.heap.size (.slice (some ⟨gs, 0, none⟩) ns cs) (bs ++ bytesC ⟨ep', sh', l, le'⟩)) := HV12.out.later hb13
        have HX13 : Hid (Cfr w13 (.agg (carr ep' sh' (.slice ax n' cx) (.slice bx n' dx) le')) ⟨ep', sh', l, le'⟩) := hX12.later hb13
        have HRD13 : Hid (Rd w13 g11 (some [])) := hrd12.later hb13
        obtain ⟨z0, z1, z2, z3, z4⟩ := five_cells ho13
        clear hb13 ho13 hX12 HV12 HO12 HW12 HC12 HR12 HB12 hrd12
        generalize w12.heap.size = p12 at *
        obtain ⟨x0, x1, x2, x3, x4⟩ := five_cells HO13.out
        obtain ⟨y0, y1, y2, y3⟩ := four_cells HW13.out
        have HS : Hid (∀ w', Below w13.heap.size w13 w' → Below w13.heap.size w13 w' ∧ w'.cell? ⟨p12, 0, none⟩ = some (.int .u64 (ep' : Nat)) ∧ w'.cell? ⟨p12, 1, none⟩ = some (.int .i64 sh') ∧ w'.cell? ⟨p12, 2, none⟩ = some (.slice ax n' cx) ∧ w'.cell? ⟨p12, 3, none⟩ = some (.slice bx n' dx) ∧ w'.cell? ⟨p12, 4, none⟩ = some (.int .i64 le') ∧ w'.cell? ⟨p5, 0, none⟩ = some (.int .u64 (ep' : Nat)) ∧ w'.cell? ⟨p5, 1, none⟩ = some (.int .i64 sh') ∧ w'.cell? ⟨p5, 2, none⟩ = some (.slice a1' n' c1') ∧ w'.cell? ⟨p5, 3, none⟩ = some (.slice b1' n' d1') ∧ w'.cell? ⟨p5, 4, none⟩ = some (.int .i64 le') ∧ w'.cell? ⟨p6, 0, none⟩ = some (.int .u64 (ep' : Nat)) ∧ w'.cell? ⟨p6, 1, none⟩ = some (.int .i64 sh') ∧ w'.cell? ⟨p6, 2, none⟩ = some (.slice a3 n' c3) ∧ w'.cell? ⟨p6, 3, none⟩ = some (.int .i64 le') ∧ (convert 48 9 (.slice (some ⟨ab, aoff, none⟩) 60 cap1)).run Try.prog w' = .ok (.string (str bs)) w' ∧ (convert 48 9 (.slice (some ⟨gs, 0, none⟩) ns cs)).run Try.prog w' = .ok (.string (str (bs ++ bytesC ⟨ep', sh', l, le'⟩))) w' ∧ Rd w' g11 (some [])) := fun w' hb => ⟨hb, cell_later hb z0, cell_later hb z1, cell_later hb z2, cell_later hb z3, cell_later hb z4, cell_later hb x0, cell_later hb x1, cell_later hb x2, cell_later hb x3, cell_later hb x4, cell_later hb y0, cell_later hb y1, cell_later hb y2, cell_later hb y3, conv_row ((HRB.out.later HB13.out).later hb) _, conv_row (HV13.out.row.later hb) _, HRD13.out.later hb⟩
        have ha : ∀ w, (Op.stringOp .add (str bs) (str (bytesC ⟨ep', sh', l, le'⟩))).run Try.prog w = .ok (.string (str (bs ++ bytesC ⟨ep', sh', l, le'⟩))) w := fun w => add_str _ _ w (by rw [hbm]; have := bytesC_len _ HRC.out; omega)
        clear x0 x1 x2 x3 x4 y0 y1 y2 y3 z0 z1 z2 z3 z4
        have hd0 : Below w13.heap.size w13 w13.drew := (Below.refl _ _).drew
        refine wp_region_noPanic ?_
        refine wp_region_held_drew (S := (fun w' => Below w13.heap.size w13 w' ∧ w'.cell? ⟨p12, 0, none⟩ = some (.int .u64 (ep' : Nat)) ∧ w'.cell? ⟨p12, 1, none⟩ = some (.int .i64 sh') ∧ w'.cell? ⟨p12, 2, none⟩ = some (.slice ax n' cx) ∧ w'.cell? ⟨p12, 3, none⟩ = some (.slice bx n' dx) ∧ w'.cell? ⟨p12, 4, none⟩ = some (.int .i64 le') ∧ w'.cell? ⟨p5, 0, none⟩ = some (.int .u64 (ep' : Nat)) ∧ w'.cell? ⟨p5, 1, none⟩ = some (.int .i64 sh') ∧ w'.cell? ⟨p5, 2, none⟩ = some (.slice a1' n' c1') ∧ w'.cell? ⟨p5, 3, none⟩ = some (.slice b1' n' d1') ∧ w'.cell? ⟨p5, 4, none⟩ = some (.int .i64 le') ∧ w'.cell? ⟨p6, 0, none⟩ = some (.int .u64 (ep' : Nat)) ∧ w'.cell? ⟨p6, 1, none⟩ = some (.int .i64 sh') ∧ w'.cell? ⟨p6, 2, none⟩ = some (.slice a3 n' c3) ∧ w'.cell? ⟨p6, 3, none⟩ = some (.int .i64 le') ∧ (convert 48 9 (.slice (some ⟨ab, aoff, none⟩) 60 cap1)).run Try.prog w' = .ok (.string (str bs)) w' ∧ (convert 48 9 (.slice (some ⟨gs, 0, none⟩) ns cs)).run Try.prog w' = .ok (.string (str (bs ++ bytesC ⟨ep', sh', l, le'⟩))) w' ∧ Rd w' g11 (some []))) (by kernel_rfl) ?_ (fun hHeld => ?_)
        · exact HS.out _ hd0
        refine held_take (i := 0) (d := 88) (v := ?_) rfl rfl (by kernel_rfl) (by kernel_rfl) (by kernel_rfl) (fun _ _ _ h => h) (Or.inl ⟨by rfl, ?_⟩) hHeld ?_
        rotate_left
        · (intro w hSw; (try dsimp only at hSw); go_simp; all_goals (with_reducible rfl))
        try simp only [Act.put, List.setIfInBounds_toArray, List.set_cons_zero, List.set_cons_succ]
        refine held_take (i := 1) (d := 89) (v := ?_) rfl rfl (by kernel_rfl) (by kernel_rfl) (by kernel_rfl) (fun _ _ _ h => h) (Or.inl ⟨by rfl, ?_⟩) hHeld ?_
        rotate_left
        · (intro w hSw; (try dsimp only at hSw); go_simp; all_goals (with_reducible rfl))
        try simp only [Act.put, List.setIfInBounds_toArray, List.set_cons_zero, List.set_cons_succ]
        refine held_take (i := 2) (d := 90) (v := ?_) rfl rfl (by kernel_rfl) (by kernel_rfl) (by kernel_rfl) (fun _ _ _ h => h) (Or.inl ⟨by rfl, ?_⟩) hHeld ?_
        rotate_left
        · (intro w hSw; (try dsimp only at hSw); go_simp; all_goals (with_reducible rfl))
        try simp only [Act.put, List.setIfInBounds_toArray, List.set_cons_zero, List.set_cons_succ]
        refine held_take (i := 3) (d := 91) (v := ?_) rfl rfl (by kernel_rfl) (by kernel_rfl) (by kernel_rfl) (fun _ _ _ h => h) (Or.inl ⟨by rfl, ?_⟩) hHeld ?_
        rotate_left
        · (intro w hSw; (try dsimp only at hSw); go_simp; all_goals (with_reducible rfl))
        try simp only [Act.put, List.setIfInBounds_toArray, List.set_cons_zero, List.set_cons_succ]
        refine held_take (i := 4) (d := 92) (v := ?_) rfl rfl (by kernel_rfl) (by kernel_rfl) (by kernel_rfl) (fun _ _ _ h => h) (Or.inl ⟨by rfl, ?_⟩) hHeld ?_
        rotate_left
        · (intro w hSw; (try dsimp only at hSw); go_simp; all_goals (with_reducible rfl))
        try simp only [Act.put, List.setIfInBounds_toArray, List.set_cons_zero, List.set_cons_succ]
        refine wpAnyH_ready (rs := [5]) (by kernel_rfl) (by simp) ?_
        refine AllReadyH.cons rfl (fun K hK => ?_) AllReadyH.nil
        go_simp
        have hq := rput_any _ _ _ (HR13.out.later hd0) HRC.out HEP
        refine hq.mono ?_
        clear hq
        rintro e u1 ⟨⟨v4, rfl, hv4⟩, hu1⟩
        obtain ⟨a4, n4, c4, rfl⟩ : ∃ a n c, v4 = .slice a n c := by obtain ⟨a, n, c, e, -⟩ := hv4.slice; exact ⟨_, _, _, e⟩
        replace hu1 : Below w13.heap.size w13 u1 := hd0.trans hu1
        have r4 := hv4.row
        clear hv4
        go_wp2_with fail
        refine hK.out _ _ ?_ (fun hHeld => ?_)
        · exact HS.out _ hu1
        clear hK K
        try simp only [Act.put, List.setIfInBounds_toArray, List.set_cons_zero, List.set_cons_succ]
        have HS2 : Hid (∀ w', Below u1.heap.size u1 w' → (Below w13.heap.size w13 w' ∧ w'.cell? ⟨p12, 0, none⟩ = some (.int .u64 (ep' : Nat)) ∧ w'.cell? ⟨p12, 1, none⟩ = some (.int .i64 sh') ∧ w'.cell? ⟨p12, 2, none⟩ = some (.slice ax n' cx) ∧ w'.cell? ⟨p12, 3, none⟩ = some (.slice bx n' dx) ∧ w'.cell? ⟨p12, 4, none⟩ = some (.int .i64 le') ∧ w'.cell? ⟨p5, 0, none⟩ = some (.int .u64 (ep' : Nat)) ∧ w'.cell? ⟨p5, 1, none⟩ = some (.int .i64 sh') ∧ w'.cell? ⟨p5, 2, none⟩ = some (.slice a1' n' c1') ∧ w'.cell? ⟨p5, 3, none⟩ = some (.slice b1' n' d1') ∧ w'.cell? ⟨p5, 4, none⟩ = some (.int .i64 le') ∧ w'.cell? ⟨p6, 0, none⟩ = some (.int .u64 (ep' : Nat)) ∧ w'.cell? ⟨p6, 1, none⟩ = some (.int .i64 sh') ∧ w'.cell? ⟨p6, 2, none⟩ = some (.slice a3 n' c3) ∧ w'.cell? ⟨p6, 3, none⟩ = some (.int .i64 le') ∧ (convert 48 9 (.slice (some ⟨ab, aoff, none⟩) 60 cap1)).run Try.prog w' = .ok (.string (str bs)) w' ∧ (convert 48 9 (.slice (some ⟨gs, 0, none⟩) ns cs)).run Try.prog w' = .ok (.string (str (bs ++ bytesC ⟨ep', sh', l, le'⟩))) w' ∧ Rd w' g11 (some [])) ∧ (convert 48 9 (.slice a4 n4 c4)).run Try.prog w' = .ok (.string (str (bytesC ⟨ep', sh', l, le'⟩))) w') := fun w' hb => ⟨HS.out _ (hu1.trans (hb.mono hu1.size)), conv_row (r4.later hb) _⟩
        refine held_mono (S' := (fun w' => (Below w13.heap.size w13 w' ∧ w'.cell? ⟨p12, 0, none⟩ = some (.int .u64 (ep' : Nat)) ∧ w'.cell? ⟨p12, 1, none⟩ = some (.int .i64 sh') ∧ w'.cell? ⟨p12, 2, none⟩ = some (.slice ax n' cx) ∧ w'.cell? ⟨p12, 3, none⟩ = some (.slice bx n' dx) ∧ w'.cell? ⟨p12, 4, none⟩ = some (.int .i64 le') ∧ w'.cell? ⟨p5, 0, none⟩ = some (.int .u64 (ep' : Nat)) ∧ w'.cell? ⟨p5, 1, none⟩ = some (.int .i64 sh') ∧ w'.cell? ⟨p5, 2, none⟩ = some (.slice a1' n' c1') ∧ w'.cell? ⟨p5, 3, none⟩ = some (.slice b1' n' d1') ∧ w'.cell? ⟨p5, 4, none⟩ = some (.int .i64 le') ∧ w'.cell? ⟨p6, 0, none⟩ = some (.int .u64 (ep' : Nat)) ∧ w'.cell? ⟨p6, 1, none⟩ = some (.int .i64 sh') ∧ w'.cell? ⟨p6, 2, none⟩ = some (.slice a3 n' c3) ∧ w'.cell? ⟨p6, 3, none⟩ = some (.int .i64 le') ∧ (convert 48 9 (.slice (some ⟨ab, aoff, none⟩) 60 cap1)).run Try.prog w' = .ok (.string (str bs)) w' ∧ (convert 48 9 (.slice (some ⟨gs, 0, none⟩) ns cs)).run Try.prog w' = .ok (.string (str (bs ++ bytesC ⟨ep', sh', l, le'⟩))) w' ∧ Rd w' g11 (some [])) ∧ (convert 48 9 (.slice a4 n4 c4)).run Try.prog w' = .ok (.string (str (bytesC ⟨ep', sh', l, le'⟩))) w')) (fun _ h => h.1) _ _ _ _ ?_
        replace hHeld := HS2.out _ (Below.refl _ _)
        refine held_take (i := 6) (d := 94) (v := ?_) rfl rfl (by kernel_rfl) (by kernel_rfl) (by kernel_rfl) (fun _ _ _ h => h) (Or.inl ⟨by rfl, ?_⟩) hHeld ?_
        rotate_left
        · (intro w hSw; (try dsimp only at hSw); go_simp; all_goals (with_reducible rfl))
        try simp only [Act.put, List.setIfInBounds_toArray, List.set_cons_zero, List.set_cons_succ]
        refine held_take (i := 7) (d := 95) (v := ?_) rfl rfl (by kernel_rfl) (by kernel_rfl) (by kernel_rfl) (fun _ _ _ h => h) (Or.inl ⟨by rfl, ?_⟩) hHeld ?_
        rotate_left
        · (intro w hSw; (try dsimp only at hSw); go_simp; all_goals (with_reducible rfl))
        try simp only [Act.put, List.setIfInBounds_toArray, List.set_cons_zero, List.set_cons_succ]
        refine held_take (i := 8) (d := 96) (v := ?_) rfl rfl (by kernel_rfl) (by kernel_rfl) (by kernel_rfl) (fun _ _ _ h => h) (Or.inl ⟨by rfl, ?_⟩) hHeld ?_
        rotate_left
        · (intro w hSw; (try dsimp only at hSw); go_simp; all_goals (with_reducible rfl))
        try simp only [Act.put, List.setIfInBounds_toArray, List.set_cons_zero, List.set_cons_succ]
        refine held_take (i := 9) (d := 97) (v := ?_) rfl rfl (by kernel_rfl) (by kernel_rfl) (by kernel_rfl) (fun _ _ _ h => h) (Or.inl ⟨by rfl, ?_⟩) hHeld ?_
        rotate_left
        · (intro w hSw; (try dsimp only at hSw); go_simp; all_goals (with_reducible rfl))
        try simp only [Act.put, List.setIfInBounds_toArray, List.set_cons_zero, List.set_cons_succ]
        refine held_take (i := 10) (d := 98) (v := ?_) rfl rfl (by kernel_rfl) (by kernel_rfl) (by kernel_rfl) (fun _ _ _ h => h) (Or.inl ⟨by rfl, ?_⟩) hHeld ?_
        rotate_left
        · (intro w hSw; (try dsimp only at hSw); go_simp; all_goals (with_reducible rfl))
        try simp only [Act.put, List.setIfInBounds_toArray, List.set_cons_zero, List.set_cons_succ]
        refine held_take (i := 11) (d := 99) (v := ?_) rfl rfl (by kernel_rfl) (by kernel_rfl) (by kernel_rfl) (fun _ _ _ h => h) (Or.inl ⟨by rfl, ?_⟩) hHeld ?_
        rotate_left
        · (intro w hSw; (try dsimp only at hSw); go_simp; all_goals (with_reducible rfl))
        try simp only [Act.put, List.setIfInBounds_toArray, List.set_cons_zero, List.set_cons_succ]
        refine held_take (i := 12) (d := 100) (v := ?_) rfl rfl (by kernel_rfl) (by kernel_rfl) (by kernel_rfl) (fun _ _ _ h => h) (Or.inl ⟨by rfl, ?_⟩) hHeld ?_
        rotate_left
        · (intro w hSw; (try dsimp only at hSw); go_simp; all_goals (with_reducible rfl))
        try simp only [Act.put, List.setIfInBounds_toArray, List.set_cons_zero, List.set_cons_succ]
        refine held_take (i := 13) (d := 101) (v := ?_) rfl rfl (by kernel_rfl) (by kernel_rfl) (by kernel_rfl) (fun _ _ _ h => h) (Or.inl ⟨by rfl, ?_⟩) hHeld ?_
        rotate_left
        · (intro w hSw; (try dsimp only at hSw); go_simp; all_goals (with_reducible rfl))
        try simp only [Act.put, List.setIfInBounds_toArray, List.set_cons_zero, List.set_cons_succ]
        refine held_take (i := 14) (d := 102) (v := ?_) rfl rfl (by kernel_rfl) (by kernel_rfl) (by kernel_rfl) (fun _ _ _ h => h) (Or.inl ⟨by rfl, ?_⟩) hHeld ?_
        rotate_left
        · (intro w hSw; (try dsimp only at hSw); go_simp; all_goals (with_reducible rfl))
        try simp only [Act.put, List.setIfInBounds_toArray, List.set_cons_zero, List.set_cons_succ]
        refine wpAnyH_ready (rs := [15]) (by kernel_rfl) (by simp) ?_
        refine AllReadyH.cons rfl (fun K hK => ?_) AllReadyH.nil
        go_simp
        have hq := same_any _ _ _ _ (HX13.out.later hu1) (HC13.out.later hu1)
        refine hq.mono ?_
        clear hq
        rintro e u2 ⟨rfl, hu2⟩
        go_wp2_with fail
        refine hK.out _ _ ?_ (fun hHeld => ?_)
        · exact HS2.out _ hu2
        clear hK K
        try simp only [Act.put, List.setIfInBounds_toArray, List.set_cons_zero, List.set_cons_succ]
        refine held_take (i := 16) (d := 104) (v := ?_) rfl rfl (by kernel_rfl) (by kernel_rfl) (by kernel_rfl) (fun _ _ _ h => h) (Or.inl ⟨by rfl, ?_⟩) hHeld ?_
        rotate_left
        · (intro w hSw; (try dsimp only at hSw); go_simp; all_goals (with_reducible rfl))
        try simp only [Act.put, List.setIfInBounds_toArray, List.set_cons_zero, List.set_cons_succ]
        refine held_take (i := 17) (d := 105) (v := ?_) rfl rfl (by kernel_rfl) (by kernel_rfl) (by kernel_rfl) (fun _ _ _ h => h) (Or.inl ⟨by rfl, ?_⟩) hHeld ?_
        rotate_left
        · (intro w hSw; (try dsimp only at hSw); go_simp; all_goals (with_reducible rfl))
        try simp only [Act.put, List.setIfInBounds_toArray, List.set_cons_zero, List.set_cons_succ]
        refine held_take (i := 18) (d := 106) (v := ?_) rfl rfl (by kernel_rfl) (by kernel_rfl) (by kernel_rfl) (fun _ _ _ h => h) (Or.inl ⟨by rfl, ?_⟩) hHeld ?_
        rotate_left
        · (intro w hSw; (try dsimp only at hSw); go_simp; all_goals (with_reducible rfl))
        try simp only [Act.put, List.setIfInBounds_toArray, List.set_cons_zero, List.set_cons_succ]
        refine wpAnyH_ready (rs := [19]) (by kernel_rfl) (by simp) ?_
        refine AllReadyH.cons rfl (fun K hK => ?_) AllReadyH.nil
        go_simp
        refine (done_any g11 _ _ hHeld.1.2.2.2.2.2.2.2.2.2.2.2.2.2.2.2.2.2).mono ?_
        rintro e u3 ⟨rfl, hw⟩
        subst u3
        rw [show ((some [] : Option (List Nat)) == some []) = true from rfl]
        go_wp2_with fail
        refine hK.out _ _ ?_ (fun hHeld => ?_)
        · exact HS2.out _ hu2
        clear hK K
        try simp only [Act.put, List.setIfInBounds_toArray, List.set_cons_zero, List.set_cons_succ]
        refine held_take (i := 20) (d := 108) (v := ?_) rfl rfl (by kernel_rfl) (by kernel_rfl) (by kernel_rfl) (fun _ _ _ h => h) (Or.inl ⟨by rfl, ?_⟩) hHeld ?_
        rotate_left
        · (intro w hSw; (try dsimp only at hSw); go_simp; all_goals (with_reducible rfl))
        try simp only [Act.put, List.setIfInBounds_toArray, List.set_cons_zero, List.set_cons_succ]
        refine held_take (i := 21) (d := 109) (v := ?_) rfl rfl (by kernel_rfl) (by kernel_rfl) (by kernel_rfl) (fun _ _ _ h => h) (Or.inl ⟨by rfl, ?_⟩) hHeld ?_
        rotate_left
        · (intro w hSw; (try dsimp only at hSw); go_simp; all_goals (with_reducible rfl))
        try simp only [Act.put, List.setIfInBounds_toArray, List.set_cons_zero, List.set_cons_succ]
        refine wpAnyH_ready (rs := [22]) (by kernel_rfl) (by simp) ?_
        refine AllReadyH.cons rfl (fun K hK => ?_) AllReadyH.nil
        go_simp
        refine (awake_any _).mono ?_
        rintro e u4 ⟨rfl, hu4⟩
        go_wp2_with fail
        refine hK.out _ _ ?_ (fun hHeld => ?_)
        · exact HS2.out _ (hu2.trans (hu4.mono hu2.size))
        clear hK K
        try simp only [Act.put, List.setIfInBounds_toArray, List.set_cons_zero, List.set_cons_succ]
        refine held_take (i := 23) (d := 111) (v := ?_) rfl rfl (by kernel_rfl) (by kernel_rfl) (by kernel_rfl) (fun _ _ _ h => h) (Or.inl ⟨by rfl, ?_⟩) hHeld ?_
        rotate_left
        · (intro w hSw; (try dsimp only at hSw); go_simp; all_goals (with_reducible rfl))
        try simp only [Act.put, List.setIfInBounds_toArray, List.set_cons_zero, List.set_cons_succ]
        refine held_take (i := 24) (d := 4) (v := ?_) rfl rfl (by kernel_rfl) (by kernel_rfl) (by kernel_rfl) (fun _ _ _ h => h) (Or.inl ⟨by rfl, ?_⟩) hHeld ?_
        rotate_left
        · (intro w hSw; (try dsimp only at hSw); go_simp; all_goals (with_reducible rfl))
        try simp only [Act.put, List.setIfInBounds_toArray, List.set_cons_zero, List.set_cons_succ]
        refine wpAnyH_done (by kernel_rfl) ?_ _
        refine NoPanic.normal ?_
        have HA := HB13.out.trans (hu1.mono HB13.out.size)
        have HA2 := HA.trans (hu2.mono HA.size)
        have HA3 := HA2.trans (hu4.mono HA2.size)
        clear hHeld HS HS2 ha
        go_wp2
        go_ret
        exact ⟨rfl, HA3⟩
    | true =>
      obtain ⟨dd, t, hbt, hrd, hed, hq⟩ := read_ok g6 bs w6 hrd6 hok
      obtain ⟨epd, shd, ld, led⟩ := dd
      simp only at hed
      have HBT : Hid (bs = bytesC ⟨epd, shd, ld, led⟩ ++ t) := hbt
      have HRD : Hid (rightB ⟨epd, shd, ld, led⟩ = true) := hrd
      have HED : Hid (epd < 18446744073709551616) := hed
      clear hbt hrd hed hrd6 hok
      have hcall := hq
      go_wp2_with fail
      refine hcall.mono ?_
      clear hcall
      rintro e w7 ⟨⟨v7, rfl, hv7⟩, hrd7, ho7⟩
      have hb67 : Below w5.heap.size w5 w7 := HB56.out.trans (ho7.below HG6.out HS6.out)
      have HO7 : Hid (w7.heap[p5]? = some (.cells (carr ep' sh' (.slice a1' n' c1') (.slice b1' n' d1') le') 29)) := heap_kept HO5.out hb67
      have HW7 : Hid (w7.heap[p6]? = some (.cells (rarr ep' sh' (.slice a3 n' c3) le') 25)) := heap_kept HW5.out hb67
      have HC7 : Hid (Cfr w7 (.agg (carr ep' sh' (.slice a1' n' c1') (.slice b1' n' d1') le')) ⟨ep', sh', l, le'⟩) := HC5.out.later hb67
      have HR7 : Hid (Rfr w7 (.agg (rarr ep' sh' (.slice a3 n' c3) le')) ⟨ep', sh', l, le'⟩) := HR5.out.later hb67
      have HB7 : Hid (Below w.heap.size w w7) := HB5.out.trans (hb67.mono HB5.out.size)
      have HV7 : Hid (Own w7 w.heap.size (.slice aS ns cs) S) := HV5.out.later hb67
      clear hq
      have HRD7 : Hid (Rd w7 g6 (some t)) := hrd7
      have HS7 : Hid (g6 < w7.heap.size) := Nat.lt_of_lt_of_le HGL.out ho7.size
      clear hb67 ho7 HB56 HV5 HO5 HW5 HC5 HR5 HB5
      obtain ⟨ad, cd, bd, dd', rfl, hA, hB, hld⟩ := hv7.read
      simp only at hA hB hld
      have hC7 : Cfr w7 (.agg (carr epd shd (.slice ad ld.length cd) (.slice bd ld.length dd') led)) ⟨epd, shd, ld, led⟩ := ⟨_, _, _, _, rfl, hA, hB, by show ld.length ≤ 100000; exact hld⟩
      clear hA hB hld hv7
      generalize hnd : ld.length = nd at *
      have HLD : Hid (ld.length = nd) := hnd
      clear hnd
      have hb8 : Below w7.heap.size w7 (w7.alloc (.cells (carr epd shd (.slice ad nd cd) (.slice bd nd dd') led) 29)) := (Below.refl _ _).alloc (Nat.le_refl _) _
      have ho8 := heap_alloc_new w7 (.cells (carr epd shd (.slice ad nd cd) (.slice bd nd dd') led) 29)
      go_upto_region 8 with fail
      generalize w7.alloc (.cells (carr epd shd (.slice ad nd cd) (.slice bd nd dd') led) 29) = w8 at *
      have HO8 : Hid (w8.heap[p5]? = some (.cells (carr ep' sh' (.slice a1' n' c1') (.slice b1' n' d1') le') 29)) := heap_kept HO7.out hb8
      have HW8 : Hid (w8.heap[p6]? = some (.cells (rarr ep' sh' (.slice a3 n' c3) le') 25)) := heap_kept HW7.out hb8
      have HC8 : Hid (Cfr w8 (.agg (carr ep' sh' (.slice a1' n' c1') (.slice b1' n' d1') le')) ⟨ep', sh', l, le'⟩) := HC7.out.later hb8
      have HR8 : Hid (Rfr w8 (.agg (rarr ep' sh' (.slice a3 n' c3) le')) ⟨ep', sh', l, le'⟩) := HR7.out.later hb8
      have HB8 : Hid (Below w.heap.size w w8) := HB7.out.trans (hb8.mono HB7.out.size)
      have HV8 : Hid (Own w8 w.heap.size (.slice aS ns cs) S) := HV7.out.later hb8
      have HD8 : Hid (w8.heap[w7.heap.size]? = some (.cells (carr epd shd (.slice ad nd cd) (.slice bd nd dd') led) 29)) := ho8
      have HCD8 : Hid (Cfr w8 (.agg (carr epd shd (.slice ad nd cd) (.slice bd nd dd') led)) ⟨epd, shd, ld, led⟩) := hC7.later hb8
      have HRD8 : Hid (Rd w8 g6 (some t)) := HRD7.out.later hb8
      clear HRD7 hrd7
      clear hb8 ho8 hC7 HV7 HO7 HW7 HC7 HR7 HB7
      generalize w7.heap.size = p9 at *
      obtain ⟨jd, hjd⟩ : ∃ jd, jd = (bytesC ⟨epd, shd, ld, led⟩).length := ⟨_, rfl⟩
      have hrl : t.length + jd = 60 := by have h1 := HRB.out.1; rw [HBT.out, List.length_append, ← hjd] at h1; omega
      have hdt : bs.drop jd = t := by rw [HBT.out, hjd, List.drop_left]
      have hjp : 0 < jd := by rw [hjd]; exact bytesC_pos _
      have HJD : Hid (jd = (bytesC ⟨epd, shd, ld, led⟩).length) := hjd
      clear hjd
      obtain ⟨AT, hAT⟩ : ∃ AT, (if cap1 = jd then (some ⟨ab, aoff, none⟩ : Option Addr) else some ⟨ab, aoff + jd, none⟩) = AT := ⟨_, rfl⟩
      have hrow : Row w8 AT (60 - jd) t := by
        have hr0 := (HRB.out.later HB8.out).drop jd (by omega)
        rw [hdt] at hr0
        by_cases hcj : cap1 = jd
        · have hm0 : 60 - jd = 0 := by have := HMC.out; omega
          rw [hm0] at hr0 ⊢
          have ht0 : t = [] := List.length_eq_zero_iff.1 hr0.1
          rw [ht0]; exact Row.empty
        · rw [← hAT, if_neg hcj]; exact hr0
      obtain ⟨x0, x1, x2, x3, x4⟩ := five_cells HD8.out
      have HS : Hid (∀ w', Below w8.heap.size w8 w' → Below w8.heap.size w8 w' ∧ w'.cell? ⟨p9, 0, none⟩ = some (.int .u64 (epd : Nat)) ∧ w'.cell? ⟨p9, 1, none⟩ = some (.int .i64 shd) ∧ w'.cell? ⟨p9, 2, none⟩ = some (.slice ad nd cd) ∧ w'.cell? ⟨p9, 3, none⟩ = some (.slice bd nd dd') ∧ w'.cell? ⟨p9, 4, none⟩ = some (.int .i64 led) ∧ Rd w' g6 (some t) ∧ (convert 48 9 (.slice (some ⟨ab, aoff, none⟩) 60 cap1)).run Try.prog w' = .ok (.string (str bs)) w' ∧ (convert 48 9 (.slice AT (60 - jd) (cap1 - jd))).run Try.prog w' = .ok (.string (str t)) w') := fun w' hb => ⟨hb, cell_later hb x0, cell_later hb x1, cell_later hb x2, cell_later hb x3, cell_later hb x4, HRD8.out.later hb, conv_row ((HRB.out.later HB8.out).later hb) _, conv_row (hrow.later hb) _⟩
      have hw48 : IntKind.i64.wrap ((60 : Int) - ((t.length : Nat) : Int)) = (jd : Int) := by rw [IntKind.wrap]; simp [IntKind.bits]; omega
      have ha : ∀ w, (Op.stringOp .add (str (bytesC ⟨epd, shd, ld, led⟩)) (str t)).run Try.prog w = .ok (.string (str bs)) w := fun w => by have := add_str (bytesC ⟨epd, shd, ld, led⟩) t w (by rw [← HJD.out]; omega); rw [← HBT.out] at this; exact this
      have hj1 : ¬ ((jd : Int) < 0) := by omega
      have hj2 : jd ≤ 60 := by omega
      have hj5 : (jd : Int) ≤ (60 : Int) := by omega
      have hj3 : 60 ≤ cap1 := HMC.out
      generalize hrr : t.length = r at *
      have HRR : Hid (t.length = r) := hrr
      clear hrr hdt hrow x0 x1 x2 x3 x4
      have hd0 : Below w8.heap.size w8 w8.drew := (Below.refl _ _).drew
      refine wp_region_noPanic ?_
      refine wp_region_held_drew (S := (fun w' => Below w8.heap.size w8 w' ∧ w'.cell? ⟨p9, 0, none⟩ = some (.int .u64 (epd : Nat)) ∧ w'.cell? ⟨p9, 1, none⟩ = some (.int .i64 shd) ∧ w'.cell? ⟨p9, 2, none⟩ = some (.slice ad nd cd) ∧ w'.cell? ⟨p9, 3, none⟩ = some (.slice bd nd dd') ∧ w'.cell? ⟨p9, 4, none⟩ = some (.int .i64 led) ∧ Rd w' g6 (some t) ∧ (convert 48 9 (.slice (some ⟨ab, aoff, none⟩) 60 cap1)).run Try.prog w' = .ok (.string (str bs)) w' ∧ (convert 48 9 (.slice AT (60 - jd) (cap1 - jd))).run Try.prog w' = .ok (.string (str t)) w')) (by kernel_rfl) ?_ (fun hHeld => ?_)
      · exact HS.out _ hd0
      refine held_take (i := 0) (d := 33) (v := ?_) rfl rfl (by kernel_rfl) (by kernel_rfl) (by kernel_rfl) (fun _ _ _ h => h) (Or.inl ⟨by rfl, ?_⟩) hHeld ?_
      rotate_left
      · (intro w hSw; (try dsimp only at hSw); go_simp; all_goals (with_reducible rfl))
      try simp only [Act.put, List.setIfInBounds_toArray, List.set_cons_zero, List.set_cons_succ]
      refine held_take (i := 1) (d := 34) (v := ?_) rfl rfl (by kernel_rfl) (by kernel_rfl) (by kernel_rfl) (fun _ _ _ h => h) (Or.inl ⟨by rfl, ?_⟩) hHeld ?_
      rotate_left
      · (intro w hSw; (try dsimp only at hSw); go_simp; all_goals (with_reducible rfl))
      try simp only [Act.put, List.setIfInBounds_toArray, List.set_cons_zero, List.set_cons_succ]
      refine held_take (i := 2) (d := 35) (v := ?_) rfl rfl (by kernel_rfl) (by kernel_rfl) (by kernel_rfl) (fun _ _ _ h => h) (Or.inl ⟨by rfl, ?_⟩) hHeld ?_
      rotate_left
      · (intro w hSw; (try dsimp only at hSw); go_simp; all_goals (with_reducible rfl))
      try simp only [Act.put, List.setIfInBounds_toArray, List.set_cons_zero, List.set_cons_succ]
      refine wpAnyH_ready (rs := [3]) (by kernel_rfl) (by simp) ?_
      refine AllReadyH.cons rfl (fun K hK => ?_) AllReadyH.nil
      go_simp
      have hq := right_any _ _ _ (HCD8.out.later hd0)
      rw [HRD.out] at hq
      refine hq.mono ?_
      clear hq
      rintro e u1 ⟨rfl, hu1⟩
      replace hu1 : Below w8.heap.size w8 u1 := hd0.trans hu1
      go_wp2_with fail
      refine hK.out _ _ ?_ (fun hHeld => ?_)
      · exact HS.out _ hu1
      clear hK K
      try simp only [Act.put, List.setIfInBounds_toArray, List.set_cons_zero, List.set_cons_succ]
      refine held_take (i := 4) (d := 37) (v := ?_) rfl rfl (by kernel_rfl) (by kernel_rfl) (by kernel_rfl) (fun _ _ _ h => h) (Or.inl ⟨by rfl, ?_⟩) hHeld ?_
      rotate_left
      · (intro w hSw; (try dsimp only at hSw); go_simp; all_goals (with_reducible rfl))
      try simp only [Act.put, List.setIfInBounds_toArray, List.set_cons_zero, List.set_cons_succ]
      refine held_take (i := 5) (d := 38) (v := ?_) rfl rfl (by kernel_rfl) (by kernel_rfl) (by kernel_rfl) (fun _ _ _ h => h) (Or.inl ⟨by rfl, ?_⟩) hHeld ?_
      rotate_left
      · (intro w hSw; (try dsimp only at hSw); go_simp; all_goals (with_reducible rfl))
      try simp only [Act.put, List.setIfInBounds_toArray, List.set_cons_zero, List.set_cons_succ]
      refine held_take (i := 6) (d := 39) (v := ?_) rfl rfl (by kernel_rfl) (by kernel_rfl) (by kernel_rfl) (fun _ _ _ h => h) (Or.inl ⟨by rfl, ?_⟩) hHeld ?_
      rotate_left
      · (intro w hSw; (try dsimp only at hSw); go_simp; all_goals (with_reducible rfl))
      try simp only [Act.put, List.setIfInBounds_toArray, List.set_cons_zero, List.set_cons_succ]
      refine held_take (i := 10) (d := 43) (v := ?_) rfl rfl (by kernel_rfl) (by kernel_rfl) (by kernel_rfl) (fun _ _ _ h => h) (Or.inl ⟨by rfl, ?_⟩) hHeld ?_
      rotate_left
      · (intro w hSw; (try dsimp only at hSw); go_simp; all_goals (with_reducible rfl))
      try simp only [Act.put, List.setIfInBounds_toArray, List.set_cons_zero, List.set_cons_succ]
      refine held_take (i := 11) (d := 44) (v := ?_) rfl rfl (by kernel_rfl) (by kernel_rfl) (by kernel_rfl) (fun _ _ _ h => h) (Or.inl ⟨by rfl, ?_⟩) hHeld ?_
      rotate_left
      · (intro w hSw; (try dsimp only at hSw); go_simp; all_goals (with_reducible rfl))
      try simp only [Act.put, List.setIfInBounds_toArray, List.set_cons_zero, List.set_cons_succ]
      refine held_take (i := 12) (d := 45) (v := ?_) rfl rfl (by kernel_rfl) (by kernel_rfl) (by kernel_rfl) (fun _ _ _ h => h) (Or.inl ⟨by rfl, ?_⟩) hHeld ?_
      rotate_left
      · (intro w hSw; (try dsimp only at hSw); go_simp; all_goals (with_reducible rfl))
      try simp only [Act.put, List.setIfInBounds_toArray, List.set_cons_zero, List.set_cons_succ]
      refine held_take (i := 13) (d := 46) (v := ?_) rfl rfl (by kernel_rfl) (by kernel_rfl) (by kernel_rfl) (fun _ _ _ h => h) (Or.inl ⟨by rfl, ?_⟩) hHeld ?_
      rotate_left
      · (intro w hSw; (try dsimp only at hSw); go_simp; all_goals (with_reducible rfl))
      try simp only [Act.put, List.setIfInBounds_toArray, List.set_cons_zero, List.set_cons_succ]
      refine held_take (i := 19) (d := 52) (v := ?_) rfl rfl (by kernel_rfl) (by kernel_rfl) (by kernel_rfl) (fun _ _ _ h => h) (Or.inl ⟨by rfl, ?_⟩) hHeld ?_
      rotate_left
      · (intro w hSw; (try dsimp only at hSw); go_simp; all_goals (with_reducible rfl))
      try simp only [Act.put, List.setIfInBounds_toArray, List.set_cons_zero, List.set_cons_succ]
      refine held_take (i := 20) (d := 53) (v := ?_) rfl rfl (by kernel_rfl) (by kernel_rfl) (by kernel_rfl) (fun _ _ _ h => h) (Or.inl ⟨by rfl, ?_⟩) hHeld ?_
      rotate_left
      · (intro w hSw; (try dsimp only at hSw); go_simp; all_goals (with_reducible rfl))
      try simp only [Act.put, List.setIfInBounds_toArray, List.set_cons_zero, List.set_cons_succ]
      refine wpAnyH_ready (rs := [7]) (by kernel_rfl) (by simp) ?_
      refine AllReadyH.cons rfl (fun K hK => ?_) AllReadyH.nil
      go_simp
      have hq := plain_any _ _ _ (HCD8.out.later hu1) (by have := (right_true HRD.out).few; simp only at this ⊢; omega)
      refine hq.mono ?_
      clear hq
      rintro e u2 ⟨⟨v2, rfl, hv2⟩, hu2⟩
      replace hu2 : Below w8.heap.size w8 u2 := hu1.trans (hu2.mono hu1.size)
      have HV2 := hv2.read
      clear hv2
      go_wp2_with fail
      refine hK.out _ _ ?_ (fun hHeld => ?_)
      · exact HS.out _ hu2
      clear hK K
      try simp only [Act.put, List.setIfInBounds_toArray, List.set_cons_zero, List.set_cons_succ]
      refine wpAnyH_ready (rs := [8]) (by kernel_rfl) (by simp) ?_
      refine AllReadyH.cons rfl (fun K hK => ?_) AllReadyH.nil
      go_simp
      have hq := rput_any _ _ _ HV2 HRD.out HED.out
      refine hq.mono ?_
      clear hq
      rintro e u3 ⟨⟨v4, rfl, hv4⟩, hu3⟩
      obtain ⟨a4, n4, c4, rfl⟩ : ∃ a n c, v4 = .slice a n c := by obtain ⟨a, n, c, e, -⟩ := hv4.slice; exact ⟨_, _, _, e⟩
      replace hu3 : Below w8.heap.size w8 u3 := hu2.trans (hu3.mono hu2.size)
      have r4 := hv4.row
      clear hv4
      go_wp2_with fail
      refine hK.out _ _ ?_ (fun hHeld => ?_)
      · exact HS.out _ hu3
      clear hK K
      try simp only [Act.put, List.setIfInBounds_toArray, List.set_cons_zero, List.set_cons_succ]
      have HS2 : Hid (∀ w', Below u3.heap.size u3 w' → (Below w8.heap.size w8 w' ∧ w'.cell? ⟨p9, 0, none⟩ = some (.int .u64 (epd : Nat)) ∧ w'.cell? ⟨p9, 1, none⟩ = some (.int .i64 shd) ∧ w'.cell? ⟨p9, 2, none⟩ = some (.slice ad nd cd) ∧ w'.cell? ⟨p9, 3, none⟩ = some (.slice bd nd dd') ∧ w'.cell? ⟨p9, 4, none⟩ = some (.int .i64 led) ∧ Rd w' g6 (some t) ∧ (convert 48 9 (.slice (some ⟨ab, aoff, none⟩) 60 cap1)).run Try.prog w' = .ok (.string (str bs)) w' ∧ (convert 48 9 (.slice AT (60 - jd) (cap1 - jd))).run Try.prog w' = .ok (.string (str t)) w') ∧ (convert 48 9 (.slice a4 n4 c4)).run Try.prog w' = .ok (.string (str (bytesC ⟨epd, shd, ld, led⟩))) w') := fun w' hb => ⟨HS.out _ (hu3.trans (hb.mono hu3.size)), conv_row (r4.later hb) _⟩
      refine held_mono (S' := (fun w' => (Below w8.heap.size w8 w' ∧ w'.cell? ⟨p9, 0, none⟩ = some (.int .u64 (epd : Nat)) ∧ w'.cell? ⟨p9, 1, none⟩ = some (.int .i64 shd) ∧ w'.cell? ⟨p9, 2, none⟩ = some (.slice ad nd cd) ∧ w'.cell? ⟨p9, 3, none⟩ = some (.slice bd nd dd') ∧ w'.cell? ⟨p9, 4, none⟩ = some (.int .i64 led) ∧ Rd w' g6 (some t) ∧ (convert 48 9 (.slice (some ⟨ab, aoff, none⟩) 60 cap1)).run Try.prog w' = .ok (.string (str bs)) w' ∧ (convert 48 9 (.slice AT (60 - jd) (cap1 - jd))).run Try.prog w' = .ok (.string (str t)) w') ∧ (convert 48 9 (.slice a4 n4 c4)).run Try.prog w' = .ok (.string (str (bytesC ⟨epd, shd, ld, led⟩))) w')) (fun _ h => h.1) _ _ _ _ ?_
      replace hHeld := HS2.out _ (Below.refl _ _)
      refine held_take (i := 9) (d := 42) (v := ?_) rfl rfl (by kernel_rfl) (by kernel_rfl) (by kernel_rfl) (fun _ _ _ h => h) (Or.inl ⟨by rfl, ?_⟩) hHeld ?_
      rotate_left
      · (intro w hSw; (try dsimp only at hSw); go_simp; all_goals (with_reducible rfl))
      try simp only [Act.put, List.setIfInBounds_toArray, List.set_cons_zero, List.set_cons_succ]
      refine wpAnyH_ready (rs := [14]) (by kernel_rfl) (by simp) ?_
      refine AllReadyH.cons rfl (fun K hK => ?_) AllReadyH.nil
      go_simp
      refine (left_any g6 _ _ hHeld.1.2.2.2.2.2.2.1).mono ?_
      rintro e u4 ⟨rfl, hw⟩
      subst u4
      rw [show ((some t : Option (List Nat)).getD []).length = r from HRR.out]
      go_wp2_with fail
      refine hK.out _ _ ?_ (fun hHeld => ?_)
      · exact HS2.out _ (Below.refl _ _)
      clear hK K
      try simp only [Act.put, List.setIfInBounds_toArray, List.set_cons_zero, List.set_cons_succ]
      refine held_take (i := 15) (d := 48) (v := ?_) rfl rfl (by kernel_rfl) (by kernel_rfl) (by kernel_rfl) (fun _ _ _ h => h) (Or.inl ⟨by rfl, ?_⟩) hHeld ?_
      rotate_left
      · (intro w hSw; (try dsimp only at hSw); go_simp; all_goals (with_reducible rfl))
      try simp only [Act.put, List.setIfInBounds_toArray, List.set_cons_zero, List.set_cons_succ]
      refine held_take (i := 16) (d := 49) (v := ?_) rfl rfl (by kernel_rfl) (by kernel_rfl) (by kernel_rfl) (fun _ _ _ h => h) (Or.inl ⟨by rfl, ?_⟩) hHeld ?_
      rotate_left
      · (intro w hSw; (try dsimp only at hSw); go_simp; all_goals (with_reducible rfl))
      try simp only [Act.put, List.setIfInBounds_toArray, List.set_cons_zero, List.set_cons_succ]
      refine held_take (i := 17) (d := 50) (v := ?_) rfl rfl (by kernel_rfl) (by kernel_rfl) (by kernel_rfl) (fun _ _ _ h => h) (Or.inl ⟨by rfl, ?_⟩) hHeld ?_
      rotate_left
      · (intro w hSw; (try dsimp only at hSw); go_simp; all_goals (with_reducible rfl))
      try simp only [Act.put, List.setIfInBounds_toArray, List.set_cons_zero, List.set_cons_succ]
      refine held_take (i := 18) (d := 51) (v := ?_) rfl rfl (by kernel_rfl) (by kernel_rfl) (by kernel_rfl) (fun _ _ _ h => h) (Or.inl ⟨by rfl, ?_⟩) hHeld ?_
      rotate_left
      · (intro w hSw; (try dsimp only at hSw); go_simp; all_goals (with_reducible rfl))
      try simp only [Act.put, List.setIfInBounds_toArray, List.set_cons_zero, List.set_cons_succ]
      refine held_take (i := 21) (d := 54) (v := ?_) rfl rfl (by kernel_rfl) (by kernel_rfl) (by kernel_rfl) (fun _ _ _ h => h) (Or.inl ⟨by rfl, ?_⟩) hHeld ?_
      rotate_left
      · (intro w hSw; (try dsimp only at hSw); go_simp; all_goals (with_reducible rfl))
      try simp only [Act.put, List.setIfInBounds_toArray, List.set_cons_zero, List.set_cons_succ]
      refine held_take (i := 22) (d := 55) (v := ?_) rfl rfl (by kernel_rfl) (by kernel_rfl) (by kernel_rfl) (fun _ _ _ h => h) (Or.inl ⟨by rfl, ?_⟩) hHeld ?_
      rotate_left
      · (intro w hSw; (try dsimp only at hSw); go_simp; all_goals (with_reducible rfl))
      try simp only [Act.put, List.setIfInBounds_toArray, List.set_cons_zero, List.set_cons_succ]
      refine held_take (i := 23) (d := 56) (v := ?_) rfl rfl (by kernel_rfl) (by kernel_rfl) (by kernel_rfl) (fun _ _ _ h => h) (Or.inl ⟨by rfl, ?_⟩) hHeld ?_
      rotate_left
      · (intro w hSw; (try dsimp only at hSw); go_simp; all_goals (with_reducible rfl))
      try simp only [Act.put, List.setIfInBounds_toArray, List.set_cons_zero, List.set_cons_succ]
      refine held_take (i := 24) (d := 57) (v := ?_) rfl rfl (by kernel_rfl) (by kernel_rfl) (by kernel_rfl) (fun _ _ _ h => h) (Or.inl ⟨by rfl, ?_⟩) hHeld ?_
      rotate_left
      · (intro w hSw; (try dsimp only at hSw); go_simp; all_goals (with_reducible rfl))
      try simp only [Act.put, List.setIfInBounds_toArray, List.set_cons_zero, List.set_cons_succ]
      refine held_take (i := 25) (d := 58) (v := ?_) rfl rfl (by kernel_rfl) (by kernel_rfl) (by kernel_rfl) (fun _ _ _ h => h) (Or.inl ⟨by rfl, ?_⟩) hHeld ?_
      rotate_left
      · (intro w hSw; (try dsimp only at hSw); go_simp; all_goals (with_reducible rfl))
      try simp only [Act.put, List.setIfInBounds_toArray, List.set_cons_zero, List.set_cons_succ]
      refine held_take (i := 26) (d := 59) (v := ?_) rfl rfl (by kernel_rfl) (by kernel_rfl) (by kernel_rfl) (fun _ _ _ h => h) (Or.inl ⟨by rfl, ?_⟩) hHeld ?_
      rotate_left
      · (intro w hSw; (try dsimp only at hSw); go_simp; all_goals (with_reducible rfl))
      try simp only [Act.put, List.setIfInBounds_toArray, List.set_cons_zero, List.set_cons_succ]
      refine held_take (i := 27) (d := 60) (v := ?_) rfl rfl (by kernel_rfl) (by kernel_rfl) (by kernel_rfl) (fun _ _ _ h => h) (Or.inl ⟨by rfl, ?_⟩) hHeld ?_
      rotate_left
      · (intro w hSw; (try dsimp only at hSw); go_simp; all_goals (with_reducible rfl))
      try simp only [Act.put, List.setIfInBounds_toArray, List.set_cons_zero, List.set_cons_succ]
      refine held_take (i := 28) (d := 61) (v := undef) rfl rfl (by kernel_rfl) (by kernel_rfl) (by kernel_rfl) (fun _ _ _ h => h) (Or.inr ⟨by rfl, rfl⟩) hHeld ?_
      try simp only [Act.put, List.setIfInBounds_toArray, List.set_cons_zero, List.set_cons_succ]
      refine held_take (i := 29) (d := 62) (v := undef) rfl rfl (by kernel_rfl) (by kernel_rfl) (by kernel_rfl) (fun _ _ _ h => h) (Or.inr ⟨by rfl, rfl⟩) hHeld ?_
      try simp only [Act.put, List.setIfInBounds_toArray, List.set_cons_zero, List.set_cons_succ]
      refine held_take (i := 30) (d := 63) (v := undef) rfl rfl (by kernel_rfl) (by kernel_rfl) (by kernel_rfl) (fun _ _ _ h => h) (Or.inr ⟨by rfl, rfl⟩) hHeld ?_
      try simp only [Act.put, List.setIfInBounds_toArray, List.set_cons_zero, List.set_cons_succ]
      refine held_take (i := 31) (d := 64) (v := undef) rfl rfl (by kernel_rfl) (by kernel_rfl) (by kernel_rfl) (fun _ _ _ h => h) (Or.inr ⟨by rfl, rfl⟩) hHeld ?_
      try simp only [Act.put, List.setIfInBounds_toArray, List.set_cons_zero, List.set_cons_succ]
      refine held_take (i := 32) (d := 65) (v := ?_) rfl rfl (by kernel_rfl) (by kernel_rfl) (by kernel_rfl) (fun _ _ _ h => h) (Or.inl ⟨by rfl, ?_⟩) hHeld ?_
      rotate_left
      · (intro w hSw; (try dsimp only at hSw); go_simp; all_goals (with_reducible rfl))
      try simp only [Act.put, List.setIfInBounds_toArray, List.set_cons_zero, List.set_cons_succ]
      refine held_take (i := 33) (d := 66) (v := ?_) rfl rfl (by kernel_rfl) (by kernel_rfl) (by kernel_rfl) (fun _ _ _ h => h) (Or.inl ⟨by rfl, ?_⟩) hHeld ?_
      rotate_left
      · (intro w hSw; (try dsimp only at hSw); go_simp; all_goals (with_reducible rfl))
      try simp only [Act.put, List.setIfInBounds_toArray, List.set_cons_zero, List.set_cons_succ]
      refine wpAnyH_done (by kernel_rfl) ?_ _
      refine NoPanic.normal ?_
      have hb9 : Below w8.heap.size w8 u3 := hu3
      clear HS HS2 hHeld ha hw48 hj1 hj2 hj5 hj3 hjp hrl r4 HV2 hu1 hu2 hu3 hd0
      have HO9 : Hid (u3.heap[p5]? = some (.cells (carr ep' sh' (.slice a1' n' c1') (.slice b1' n' d1') le') 29)) := heap_kept HO8.out hb9
      have HW9 : Hid (u3.heap[p6]? = some (.cells (rarr ep' sh' (.slice a3 n' c3) le') 25)) := heap_kept HW8.out hb9
      have HC9 : Hid (Cfr u3 (.agg (carr ep' sh' (.slice a1' n' c1') (.slice b1' n' d1') le')) ⟨ep', sh', l, le'⟩) := HC8.out.later hb9
      have HR9 : Hid (Rfr u3 (.agg (rarr ep' sh' (.slice a3 n' c3) le')) ⟨ep', sh', l, le'⟩) := HR8.out.later hb9
      have HB9 : Hid (Below w.heap.size w u3) := HB8.out.trans (hb9.mono HB8.out.size)
      have HV9 : Hid (Own u3 w.heap.size (.slice aS ns cs) S) := HV8.out.later hb9
      clear HV8 HO8 HW8 HC8 HR8 HB8 hb9 HCD8 HD8 HRD8 HRD HED HRR HJD HBT
      generalize u3 = w9 at *
      have hcall := rright_any _ _ _ HR9.out
      obtain ⟨y0, y1, y2, y3⟩ := four_cells HW9.out
      go_wp2_with fail
      refine hcall.mono ?_
      clear hcall y0 y1 y2 y3
      rintro e w10 ⟨rfl, hb10⟩
      have HO10 : Hid (w10.heap[p5]? = some (.cells (carr ep' sh' (.slice a1' n' c1') (.slice b1' n' d1') le') 29)) := heap_kept HO9.out hb10
      have HW10 : Hid (w10.heap[p6]? = some (.cells (rarr ep' sh' (.slice a3 n' c3) le') 25)) := heap_kept HW9.out hb10
      have HC10 : Hid (Cfr w10 (.agg (carr ep' sh' (.slice a1' n' c1') (.slice b1' n' d1') le')) ⟨ep', sh', l, le'⟩) := HC9.out.later hb10
      have HR10 : Hid (Rfr w10 (.agg (rarr ep' sh' (.slice a3 n' c3) le')) ⟨ep', sh', l, le'⟩) := HR9.out.later hb10
      have HB10 : Hid (Below w.heap.size w w10) := HB9.out.trans (hb10.mono HB9.out.size)
      have HV10 : Hid (Own w10 w.heap.size (.slice aS ns cs) S) := HV9.out.later hb10
      clear hb10 HV9 HO9 HW9 HC9 HR9 HB9
      cases hrc : rightB ⟨ep', sh', l, le'⟩ with
      | false =>
        have hSb : S = bs := by rw [HSE.out, hrc]; simp
        subst hSb
        have c1 := conv_row HV10.out.row cs
        have c2 := conv_row (HRB.out.later HB10.out) cap1
        go_wp2_with fail
        refine (awake_any _).mono ?_
        rintro e wf ⟨rfl, hbf⟩
        have HBF : Hid (Below w.heap.size w wf) := HB10.out.trans (hbf.mono HB10.out.size)
        clear hbf c1 c2
        go_wp2
        go_ret
        exact ⟨rfl, HBF.out⟩
      | true =>
        have HRC : Hid (rightB ⟨ep', sh', l, le'⟩ = true) := hrc
        have hSb : S = bs ++ bytesC ⟨ep', sh', l, le'⟩ := by rw [HSE.out, hrc]; simp
        clear hrc HSE
        subst hSb
        have hbp := bytesC_pos ⟨ep', sh', l, le'⟩
        obtain ⟨gs, ns', cs', e9, hns, -, hgs, hnc, hcm⟩ := HV10.out.form (by intro e; rw [List.append_eq_nil_iff] at e; rw [e.2] at hbp; simp at hbp)
        simp only [Value.slice.injEq] at e9
        obtain ⟨rfl, rfl, rfl⟩ := e9
        have hbm : bs.length = 60 := HRB.out.1
        rw [List.length_append, hbm] at hns
        have rd10 := HV10.out.row.drop 60 (by omega)
        rw [show List.drop 60 (bs ++ bytesC ⟨ep', sh', l, le'⟩) = bytesC ⟨ep', sh', l, le'⟩ by rw [← hbm, List.drop_left]] at rd10
        simp only [Nat.zero_add] at rd10
        have hz1 : ¬ ((60 : Int) < 0) := by omega
        have hz2 : 60 ≤ ns := by omega
        have hz3 : ¬ cs = 60 := by omega
        have hz4 : (60 : Int) ≤ (ns : Int) := by omega
        have HQ0 : Hid (ns = 60 + (bytesC ⟨ep', sh', l, le'⟩).length) := hns
        have hcall := new_any _ (ns - 60) (cs - 60) _ _ rd10 (by simp) (by have : (bytesC ⟨ep', sh', l, le'⟩).length ≤ 1000 := bytesC_len _ HRC.out; omega)
        clear rd10 hns hbp hcm
        go_wp2_with fail
        refine hcall.mono ?_
        clear hcall
        rintro e w11 ⟨g11, rfl, hrd, hg11, hb11⟩
        have HB1011 : Hid (Below w10.heap.size w10 w11) := hb11
        have HG11 : Hid (w10.heap.size ≤ g11) := hg11
        have HS11 : Hid (w10.heap.size ≤ w11.heap.size) := hb11.size
        have hcall := read_put g11 ⟨ep', sh', l, le'⟩ w11 hrd HRC.out HEP
        clear hb11 hg11 hrd
        go_wp2_with fail
        refine hcall.mono ?_
        clear hcall
        rintro e w12 ⟨⟨v12, rfl, hv12⟩, hrd12, ho12⟩
        have hb12 : Below w10.heap.size w10 w12 := HB1011.out.trans (ho12.below HG11.out HS11.out)
        have HO12 : Hid (w12.heap[p5]? = some (.cells (carr ep' sh' (.slice a1' n' c1') (.slice b1' n' d1') le') 29)) := heap_kept HO10.out hb12
        have HW12 : Hid (w12.heap[p6]? = some (.cells (rarr ep' sh' (.slice a3 n' c3) le') 25)) := heap_kept HW10.out hb12
        have HC12 : Hid (Cfr w12 (.agg (carr ep' sh' (.slice a1' n' c1') (.slice b1' n' d1') le')) ⟨ep', sh', l, le'⟩) := HC10.out.later hb12
        have HR12 : Hid (Rfr w12 (.agg (rarr ep' sh' (.slice a3 n' c3) le')) ⟨ep', sh', l, le'⟩) := HR10.out.later hb12
        have HB12 : Hid (Below w.heap.size w w12) := HB10.out.trans (hb12.mono HB10.out.size)
        have HV12 : Hid (Own w12 w.heap.size (.slice (some ⟨gs, 0, none⟩) ns cs) (bs ++ bytesC ⟨ep', sh', l, le'⟩)) := HV10.out.later hb12
        clear hb12 ho12 HV10 HO10 HW10 HC10 HR10 HB10 HB1011
        obtain ⟨ax, cx, bx, dx, rfl, hA, hB, hlx⟩ := hv12.read
        simp only at hA hB hlx
        have hX12 : Cfr w12 (.agg (carr ep' sh' (.slice ax l.length cx) (.slice bx l.length dx) le')) ⟨ep', sh', l, le'⟩ := ⟨_, _, _, _, rfl, hA, hB, hlx⟩
        clear hA hB hlx hv12
        rw [HLN.out] at hX12
        rw [HLN.out]
        have hb13 : Below w12.heap.size w12 (w12.alloc (.cells (carr ep' sh' (.slice ax n' cx) (.slice bx n' dx) le') 29)) := (Below.refl _ _).alloc (Nat.le_refl _) _
        have ho13 := heap_alloc_new w12 (.cells (carr ep' sh' (.slice ax n' cx) (.slice bx n' dx) le') 29)
        go_upto_region 14 with fail
        generalize w12.alloc (.cells (carr ep' sh' (.slice ax n' cx) (.slice bx n' dx) le') 29) = w13 at *
        have HO13 : Hid (w13.heap[p5]? = some (.cells (carr ep' sh' (.slice a1' n' c1') (.slice b1' n' d1') le') 29)) := heap_kept HO12.out hb13
        have HW13 : Hid (w13.heap[p6]? = some (.cells (rarr ep' sh' (.slice a3 n' c3) le') 25)) := heap_kept HW12.out hb13
        have HC13 : Hid (Cfr w13 (.agg (carr ep' sh' (.slice a1' n' c1') (.slice b1' n' d1') le')) ⟨ep', sh', l, le'⟩) := HC12.out.later hb13
        have HR13 : Hid (Rfr w13 (.agg (rarr ep' sh' (.slice a3 n' c3) le')) ⟨ep', sh', l, le'⟩) := HR12.out.later hb13
        have HB13 : Hid (Below w.heap.size w w13) := HB12.out.trans (hb13.mono HB12.out.size)
        have HV13 : Hid (Own w13 w.heap.size (.slice (some ⟨gs, 0, none⟩) ns cs) (bs ++ bytesC ⟨ep', sh', l, le'⟩)) := HV12.out.later hb13
        have HX13 : Hid (Cfr w13 (.agg (carr ep' sh' (.slice ax n' cx) (.slice bx n' dx) le')) ⟨ep', sh', l, le'⟩) := hX12.later hb13
        have HRD13 : Hid (Rd w13 g11 (some [])) := hrd12.later hb13
        obtain ⟨z0, z1, z2, z3, z4⟩ := five_cells ho13
        clear hb13 ho13 hX12 HV12 HO12 HW12 HC12 HR12 HB12 hrd12
        generalize w12.heap.size = p12 at *
        obtain ⟨x0, x1, x2, x3, x4⟩ := five_cells HO13.out
        obtain ⟨y0, y1, y2, y3⟩ := four_cells HW13.out
        have HS : Hid (∀ w', Below w13.heap.size w13 w' → Below w13.heap.size w13 w' ∧ w'.cell? ⟨p12, 0, none⟩ = some (.int .u64 (ep' : Nat)) ∧ w'.cell? ⟨p12, 1, none⟩ = some (.int .i64 sh') ∧ w'.cell? ⟨p12, 2, none⟩ = some (.slice ax n' cx) ∧ w'.cell? ⟨p12, 3, none⟩ = some (.slice bx n' dx) ∧ w'.cell? ⟨p12, 4, none⟩ = some (.int .i64 le') ∧ w'.cell? ⟨p5, 0, none⟩ = some (.int .u64 (ep' : Nat)) ∧ w'.cell? ⟨p5, 1, none⟩ = some (.int .i64 sh') ∧ w'.cell? ⟨p5, 2, none⟩ = some (.slice a1' n' c1') ∧ w'.cell? ⟨p5, 3, none⟩ = some (.slice b1' n' d1') ∧ w'.cell? ⟨p5, 4, none⟩ = some (.int .i64 le') ∧ w'.cell? ⟨p6, 0, none⟩ = some (.int .u64 (ep' : Nat)) ∧ w'.cell? ⟨p6, 1, none⟩ = some (.int .i64 sh') ∧ w'.cell? ⟨p6, 2, none⟩ = some (.slice a3 n' c3) ∧ w'.cell? ⟨p6, 3, none⟩ = some (.int .i64 le') ∧ (convert 48 9 (.slice (some ⟨ab, aoff, none⟩) 60 cap1)).run Try.prog w' = .ok (.string (str bs)) w' ∧ (convert 48 9 (.slice (some ⟨gs, 0, none⟩) ns cs)).run Try.prog w' = .ok (.string (str (bs ++ bytesC ⟨ep', sh', l, le'⟩))) w' ∧ Rd w' g11 (some [])) := fun w' hb => ⟨hb, cell_later hb z0, cell_later hb z1, cell_later hb z2, cell_later hb z3, cell_later hb z4, cell_later hb x0, cell_later hb x1, cell_later hb x2, cell_later hb x3, cell_later hb x4, cell_later hb y0, cell_later hb y1, cell_later hb y2, cell_later hb y3, conv_row ((HRB.out.later HB13.out).later hb) _, conv_row (HV13.out.row.later hb) _, HRD13.out.later hb⟩
        have ha : ∀ w, (Op.stringOp .add (str bs) (str (bytesC ⟨ep', sh', l, le'⟩))).run Try.prog w = .ok (.string (str (bs ++ bytesC ⟨ep', sh', l, le'⟩))) w := fun w => add_str _ _ w (by rw [hbm]; have := bytesC_len _ HRC.out; omega)
        clear x0 x1 x2 x3 x4 y0 y1 y2 y3 z0 z1 z2 z3 z4
        have hd0 : Below w13.heap.size w13 w13.drew := (Below.refl _ _).drew
        refine wp_region_noPanic ?_
        refine wp_region_held_drew (S := (fun w' => Below w13.heap.size w13 w' ∧ w'.cell? ⟨p12, 0, none⟩ = some (.int .u64 (ep' : Nat)) ∧ w'.cell? ⟨p12, 1, none⟩ = some (.int .i64 sh') ∧ w'.cell? ⟨p12, 2, none⟩ = some (.slice ax n' cx) ∧ w'.cell? ⟨p12, 3, none⟩ = some (.slice bx n' dx) ∧ w'.cell? ⟨p12, 4, none⟩ = some (.int .i64 le') ∧ w'.cell? ⟨p5, 0, none⟩ = some (.int .u64 (ep' : Nat)) ∧ w'.cell? ⟨p5, 1, none⟩ = some (.int .i64 sh') ∧ w'.cell? ⟨p5, 2, none⟩ = some (.slice a1' n' c1') ∧ w'.cell? ⟨p5, 3, none⟩ = some (.slice b1' n' d1') ∧ w'.cell? ⟨p5, 4, none⟩ = some (.int .i64 le') ∧ w'.cell? ⟨p6, 0, none⟩ = some (.int .u64 (ep' : Nat)) ∧ w'.cell? ⟨p6, 1, none⟩ = some (.int .i64 sh') ∧ w'.cell? ⟨p6, 2, none⟩ = some (.slice a3 n' c3) ∧ w'.cell? ⟨p6, 3, none⟩ = some (.int .i64 le') ∧ (convert 48 9 (.slice (some ⟨ab, aoff, none⟩) 60 cap1)).run Try.prog w' = .ok (.string (str bs)) w' ∧ (convert 48 9 (.slice (some ⟨gs, 0, none⟩) ns cs)).run Try.prog w' = .ok (.string (str (bs ++ bytesC ⟨ep', sh', l, le'⟩))) w' ∧ Rd w' g11 (some []))) (by kernel_rfl) ?_ (fun hHeld => ?_)
        · exact HS.out _ hd0
        refine held_take (i := 0) (d := 88) (v := ?_) rfl rfl (by kernel_rfl) (by kernel_rfl) (by kernel_rfl) (fun _ _ _ h => h) (Or.inl ⟨by rfl, ?_⟩) hHeld ?_
        rotate_left
        · (intro w hSw; (try dsimp only at hSw); go_simp; all_goals (with_reducible rfl))
        try simp only [Act.put, List.setIfInBounds_toArray, List.set_cons_zero, List.set_cons_succ]
        refine held_take (i := 1) (d := 89) (v := ?_) rfl rfl (by kernel_rfl) (by kernel_rfl) (by kernel_rfl) (fun _ _ _ h => h) (Or.inl ⟨by rfl, ?_⟩) hHeld ?_
        rotate_left
        · (intro w hSw; (try dsimp only at hSw); go_simp; all_goals (with_reducible rfl))
        try simp only [Act.put, List.setIfInBounds_toArray, List.set_cons_zero, List.set_cons_succ]
        refine held_take (i := 2) (d := 90) (v := ?_) rfl rfl (by kernel_rfl) (by kernel_rfl) (by kernel_rfl) (fun _ _ _ h => h) (Or.inl ⟨by rfl, ?_⟩) hHeld ?_
        rotate_left
        · (intro w hSw; (try dsimp only at hSw); go_simp; all_goals (with_reducible rfl))
        try simp only [Act.put, List.setIfInBounds_toArray, List.set_cons_zero, List.set_cons_succ]
        refine held_take (i := 3) (d := 91) (v := ?_) rfl rfl (by kernel_rfl) (by kernel_rfl) (by kernel_rfl) (fun _ _ _ h => h) (Or.inl ⟨by rfl, ?_⟩) hHeld ?_
        rotate_left
        · (intro w hSw; (try dsimp only at hSw); go_simp; all_goals (with_reducible rfl))
        try simp only [Act.put, List.setIfInBounds_toArray, List.set_cons_zero, List.set_cons_succ]
        refine held_take (i := 4) (d := 92) (v := ?_) rfl rfl (by kernel_rfl) (by kernel_rfl) (by kernel_rfl) (fun _ _ _ h => h) (Or.inl ⟨by rfl, ?_⟩) hHeld ?_
        rotate_left
        · (intro w hSw; (try dsimp only at hSw); go_simp; all_goals (with_reducible rfl))
        try simp only [Act.put, List.setIfInBounds_toArray, List.set_cons_zero, List.set_cons_succ]
        refine wpAnyH_ready (rs := [5]) (by kernel_rfl) (by simp) ?_
        refine AllReadyH.cons rfl (fun K hK => ?_) AllReadyH.nil
        go_simp
        have hq := rput_any _ _ _ (HR13.out.later hd0) HRC.out HEP
        refine hq.mono ?_
        clear hq
        rintro e u1 ⟨⟨v4, rfl, hv4⟩, hu1⟩
        obtain ⟨a4, n4, c4, rfl⟩ : ∃ a n c, v4 = .slice a n c := by obtain ⟨a, n, c, e, -⟩ := hv4.slice; exact ⟨_, _, _, e⟩
        replace hu1 : Below w13.heap.size w13 u1 := hd0.trans hu1
        have r4 := hv4.row
        clear hv4
        go_wp2_with fail
        refine hK.out _ _ ?_ (fun hHeld => ?_)
        · exact HS.out _ hu1
        clear hK K
        try simp only [Act.put, List.setIfInBounds_toArray, List.set_cons_zero, List.set_cons_succ]
        have HS2 : Hid (∀ w', Below u1.heap.size u1 w' → (Below w13.heap.size w13 w' ∧ w'.cell? ⟨p12, 0, none⟩ = some (.int .u64 (ep' : Nat)) ∧ w'.cell? ⟨p12, 1, none⟩ = some (.int .i64 sh') ∧ w'.cell? ⟨p12, 2, none⟩ = some (.slice ax n' cx) ∧ w'.cell? ⟨p12, 3, none⟩ = some (.slice bx n' dx) ∧ w'.cell? ⟨p12, 4, none⟩ = some (.int .i64 le') ∧ w'.cell? ⟨p5, 0, none⟩ = some (.int .u64 (ep' : Nat)) ∧ w'.cell? ⟨p5, 1, none⟩ = some (.int .i64 sh') ∧ w'.cell? ⟨p5, 2, none⟩ = some (.slice a1' n' c1') ∧ w'.cell? ⟨p5, 3, none⟩ = some (.slice b1' n' d1') ∧ w'.cell? ⟨p5, 4, none⟩ = some (.int .i64 le') ∧ w'.cell? ⟨p6, 0, none⟩ = some (.int .u64 (ep' : Nat)) ∧ w'.cell? ⟨p6, 1, none⟩ = some (.int .i64 sh') ∧ w'.cell? ⟨p6, 2, none⟩ = some (.slice a3 n' c3) ∧ w'.cell? ⟨p6, 3, none⟩ = some (.int .i64 le') ∧ (convert 48 9 (.slice (some ⟨ab, aoff, none⟩) 60 cap1)).run Try.prog w' = .ok (.string (str bs)) w' ∧ (convert 48 9 (.slice (some ⟨gs, 0, none⟩) ns cs)).run Try.prog w' = .ok (.string (str (bs ++ bytesC ⟨ep', sh', l, le'⟩))) w' ∧ Rd w' g11 (some [])) ∧ (convert 48 9 (.slice a4 n4 c4)).run Try.prog w' = .ok (.string (str (bytesC ⟨ep', sh', l, le'⟩))) w') := fun w' hb => ⟨HS.out _ (hu1.trans (hb.mono hu1.size)), conv_row (r4.later hb) _⟩
        refine held_mono (S' := (fun w' => (Below w13.heap.size w13 w' ∧ w'.cell? ⟨p12, 0, none⟩ = some (.int .u64 (ep' : Nat)) ∧ w'.cell? ⟨p12, 1, none⟩ = some (.int .i64 sh') ∧ w'.cell? ⟨p12, 2, none⟩ = some (.slice ax n' cx) ∧ w'.cell? ⟨p12, 3, none⟩ = some (.slice bx n' dx) ∧ w'.cell? ⟨p12, 4, none⟩ = some (.int .i64 le') ∧ w'.cell? ⟨p5, 0, none⟩ = some (.int .u64 (ep' : Nat)) ∧ w'.cell? ⟨p5, 1, none⟩ = some (.int .i64 sh') ∧ w'.cell? ⟨p5, 2, none⟩ = some (.slice a1' n' c1') ∧ w'.cell? ⟨p5, 3, none⟩ = some (.slice b1' n' d1') ∧ w'.cell? ⟨p5, 4, none⟩ = some (.int .i64 le') ∧ w'.cell? ⟨p6, 0, none⟩ = some (.int .u64 (ep' : Nat)) ∧ w'.cell? ⟨p6, 1, none⟩ = some (.int .i64 sh') ∧ w'.cell? ⟨p6, 2, none⟩ = some (.slice a3 n' c3) ∧ w'.cell? ⟨p6, 3, none⟩ = some (.int .i64 le') ∧ (convert 48 9 (.slice (some ⟨ab, aoff, none⟩) 60 cap1)).run Try.prog w' = .ok (.string (str bs)) w' ∧ (convert 48 9 (.slice (some ⟨gs, 0, none⟩) ns cs)).run Try.prog w' = .ok (.string (str (bs ++ bytesC ⟨ep', sh', l, le'⟩))) w' ∧ Rd w' g11 (some [])) ∧ (convert 48 9 (.slice a4 n4 c4)).run Try.prog w' = .ok (.string (str (bytesC ⟨ep', sh', l, le'⟩))) w')) (fun _ h => h.1) _ _ _ _ ?_
        replace hHeld := HS2.out _ (Below.refl _ _)
        refine held_take (i := 6) (d := 94) (v := ?_) rfl rfl (by kernel_rfl) (by kernel_rfl) (by kernel_rfl) (fun _ _ _ h => h) (Or.inl ⟨by rfl, ?_⟩) hHeld ?_
        rotate_left
        · (intro w hSw; (try dsimp only at hSw); go_simp; all_goals (with_reducible rfl))
        try simp only [Act.put, List.setIfInBounds_toArray, List.set_cons_zero, List.set_cons_succ]
        refine held_take (i := 7) (d := 95) (v := ?_) rfl rfl (by kernel_rfl) (by kernel_rfl) (by kernel_rfl) (fun _ _ _ h => h) (Or.inl ⟨by rfl, ?_⟩) hHeld ?_
        rotate_left
        · (intro w hSw; (try dsimp only at hSw); go_simp; all_goals (with_reducible rfl))
        try simp only [Act.put, List.setIfInBounds_toArray, List.set_cons_zero, List.set_cons_succ]
        refine held_take (i := 8) (d := 96) (v := ?_) rfl rfl (by kernel_rfl) (by kernel_rfl) (by kernel_rfl) (fun _ _ _ h => h) (Or.inl ⟨by rfl, ?_⟩) hHeld ?_
        rotate_left
        · (intro w hSw; (try dsimp only at hSw); go_simp; all_goals (with_reducible rfl))
        try simp only [Act.put, List.setIfInBounds_toArray, List.set_cons_zero, List.set_cons_succ]
        refine held_take (i := 9) (d := 97) (v := ?_) rfl rfl (by kernel_rfl) (by kernel_rfl) (by kernel_rfl) (fun _ _ _ h => h) (Or.inl ⟨by rfl, ?_⟩) hHeld ?_
        rotate_left
        · (intro w hSw; (try dsimp only at hSw); go_simp; all_goals (with_reducible rfl))
        try simp only [Act.put, List.setIfInBounds_toArray, List.set_cons_zero, List.set_cons_succ]
        refine held_take (i := 10) (d := 98) (v := ?_) rfl rfl (by kernel_rfl) (by kernel_rfl) (by kernel_rfl) (fun _ _ _ h => h) (Or.inl ⟨by rfl, ?_⟩) hHeld ?_
        rotate_left
        · (intro w hSw; (try dsimp only at hSw); go_simp; all_goals (with_reducible rfl))
        try simp only [Act.put, List.setIfInBounds_toArray, List.set_cons_zero, List.set_cons_succ]
        refine held_take (i := 11) (d := 99) (v := ?_) rfl rfl (by kernel_rfl) (by kernel_rfl) (by kernel_rfl) (fun _ _ _ h => h) (Or.inl ⟨by rfl, ?_⟩) hHeld ?_
        rotate_left
        · (intro w hSw; (try dsimp only at hSw); go_simp; all_goals (with_reducible rfl))
        try simp only [Act.put, List.setIfInBounds_toArray, List.set_cons_zero, List.set_cons_succ]
        refine held_take (i := 12) (d := 100) (v := ?_) rfl rfl (by kernel_rfl) (by kernel_rfl) (by kernel_rfl) (fun _ _ _ h => h) (Or.inl ⟨by rfl, ?_⟩) hHeld ?_
        rotate_left
        · (intro w hSw; (try dsimp only at hSw); go_simp; all_goals (with_reducible rfl))
        try simp only [Act.put, List.setIfInBounds_toArray, List.set_cons_zero, List.set_cons_succ]
        refine held_take (i := 13) (d := 101) (v := ?_) rfl rfl (by kernel_rfl) (by kernel_rfl) (by kernel_rfl) (fun _ _ _ h => h) (Or.inl ⟨by rfl, ?_⟩) hHeld ?_
        rotate_left
        · (intro w hSw; (try dsimp only at hSw); go_simp; all_goals (with_reducible rfl))
        try simp only [Act.put, List.setIfInBounds_toArray, List.set_cons_zero, List.set_cons_succ]
        refine held_take (i := 14) (d := 102) (v := ?_) rfl rfl (by kernel_rfl) (by kernel_rfl) (by kernel_rfl) (fun _ _ _ h => h) (Or.inl ⟨by rfl, ?_⟩) hHeld ?_
        rotate_left
        · (intro w hSw; (try dsimp only at hSw); go_simp; all_goals (with_reducible rfl))
        try simp only [Act.put, List.setIfInBounds_toArray, List.set_cons_zero, List.set_cons_succ]
        refine wpAnyH_ready (rs := [15]) (by kernel_rfl) (by simp) ?_
        refine AllReadyH.cons rfl (fun K hK => ?_) AllReadyH.nil
        go_simp
        have hq := same_any _ _ _ _ (HX13.out.later hu1) (HC13.out.later hu1)
        refine hq.mono ?_
        clear hq
        rintro e u2 ⟨rfl, hu2⟩
        go_wp2_with fail
        refine hK.out _ _ ?_ (fun hHeld => ?_)
        · exact HS2.out _ hu2
        clear hK K
        try simp only [Act.put, List.setIfInBounds_toArray, List.set_cons_zero, List.set_cons_succ]
        refine held_take (i := 16) (d := 104) (v := ?_) rfl rfl (by kernel_rfl) (by kernel_rfl) (by kernel_rfl) (fun _ _ _ h => h) (Or.inl ⟨by rfl, ?_⟩) hHeld ?_
        rotate_left
        · (intro w hSw; (try dsimp only at hSw); go_simp; all_goals (with_reducible rfl))
        try simp only [Act.put, List.setIfInBounds_toArray, List.set_cons_zero, List.set_cons_succ]
        refine held_take (i := 17) (d := 105) (v := ?_) rfl rfl (by kernel_rfl) (by kernel_rfl) (by kernel_rfl) (fun _ _ _ h => h) (Or.inl ⟨by rfl, ?_⟩) hHeld ?_
        rotate_left
        · (intro w hSw; (try dsimp only at hSw); go_simp; all_goals (with_reducible rfl))
        try simp only [Act.put, List.setIfInBounds_toArray, List.set_cons_zero, List.set_cons_succ]
        refine held_take (i := 18) (d := 106) (v := ?_) rfl rfl (by kernel_rfl) (by kernel_rfl) (by kernel_rfl) (fun _ _ _ h => h) (Or.inl ⟨by rfl, ?_⟩) hHeld ?_
        rotate_left
        · (intro w hSw; (try dsimp only at hSw); go_simp; all_goals (with_reducible rfl))
        try simp only [Act.put, List.setIfInBounds_toArray, List.set_cons_zero, List.set_cons_succ]
        refine wpAnyH_ready (rs := [19]) (by kernel_rfl) (by simp) ?_
        refine AllReadyH.cons rfl (fun K hK => ?_) AllReadyH.nil
        go_simp
        refine (done_any g11 _ _ hHeld.1.2.2.2.2.2.2.2.2.2.2.2.2.2.2.2.2.2).mono ?_
        rintro e u3 ⟨rfl, hw⟩
        subst u3
        rw [show ((some [] : Option (List Nat)) == some []) = true from rfl]
        go_wp2_with fail
        refine hK.out _ _ ?_ (fun hHeld => ?_)
        · exact HS2.out _ hu2
        clear hK K
        try simp only [Act.put, List.setIfInBounds_toArray, List.set_cons_zero, List.set_cons_succ]
        refine held_take (i := 20) (d := 108) (v := ?_) rfl rfl (by kernel_rfl) (by kernel_rfl) (by kernel_rfl) (fun _ _ _ h => h) (Or.inl ⟨by rfl, ?_⟩) hHeld ?_
        rotate_left
        · (intro w hSw; (try dsimp only at hSw); go_simp; all_goals (with_reducible rfl))
        try simp only [Act.put, List.setIfInBounds_toArray, List.set_cons_zero, List.set_cons_succ]
        refine held_take (i := 21) (d := 109) (v := ?_) rfl rfl (by kernel_rfl) (by kernel_rfl) (by kernel_rfl) (fun _ _ _ h => h) (Or.inl ⟨by rfl, ?_⟩) hHeld ?_
        rotate_left
        · (intro w hSw; (try dsimp only at hSw); go_simp; all_goals (with_reducible rfl))
        try simp only [Act.put, List.setIfInBounds_toArray, List.set_cons_zero, List.set_cons_succ]
        refine wpAnyH_ready (rs := [22]) (by kernel_rfl) (by simp) ?_
        refine AllReadyH.cons rfl (fun K hK => ?_) AllReadyH.nil
        go_simp
        refine (awake_any _).mono ?_
        rintro e u4 ⟨rfl, hu4⟩
        go_wp2_with fail
        refine hK.out _ _ ?_ (fun hHeld => ?_)
        · exact HS2.out _ (hu2.trans (hu4.mono hu2.size))
        clear hK K
        try simp only [Act.put, List.setIfInBounds_toArray, List.set_cons_zero, List.set_cons_succ]
        refine held_take (i := 23) (d := 111) (v := ?_) rfl rfl (by kernel_rfl) (by kernel_rfl) (by kernel_rfl) (fun _ _ _ h => h) (Or.inl ⟨by rfl, ?_⟩) hHeld ?_
        rotate_left
        · (intro w hSw; (try dsimp only at hSw); go_simp; all_goals (with_reducible rfl))
        try simp only [Act.put, List.setIfInBounds_toArray, List.set_cons_zero, List.set_cons_succ]
        refine held_take (i := 24) (d := 4) (v := ?_) rfl rfl (by kernel_rfl) (by kernel_rfl) (by kernel_rfl) (fun _ _ _ h => h) (Or.inl ⟨by rfl, ?_⟩) hHeld ?_
        rotate_left
        · (intro w hSw; (try dsimp only at hSw); go_simp; all_goals (with_reducible rfl))
        try simp only [Act.put, List.setIfInBounds_toArray, List.set_cons_zero, List.set_cons_succ]
        refine wpAnyH_done (by kernel_rfl) ?_ _
        refine NoPanic.normal ?_
        have HA := HB13.out.trans (hu1.mono HB13.out.size)
        have HA2 := HA.trans (hu2.mono HA.size)
        have HA3 := HA2.trans (hu4.mono HA2.size)
        clear hHeld HS HS2 ha
        go_wp2
        go_ret
        exact ⟨rfl, HA3⟩

/-! From the call to the statement. -/
set_option maxRecDepth 100000 in
theorem lifted (os : Os) (started : os.Started) (H : Type) (enc : TypeId × Value → H) :
    ReturnsInHanded {} Try.checked os 6 .any (Rows.confBytesSpec.pre6 enc Try.prog Try.f6 Rows.confBytesRow.domain false) (Rows.confBytesSpec.post enc Try.prog Try.f6 false true false false) := by
  refine returnsInHanded_of_change (C := Try.checked) own started (by kernel_rfl) Try.func6
    (ChangeSpec.witness6 (enc := enc) (C := Try.checked) false ⟨#[], #[.agg #[.int .u64 0, .int .i64 0, .slice none 0 0, .int .i64 0], .slice none 0 0], []⟩ 8 (by kernel_rfl) (by kernel_rfl) (by kernel_rfl) (by kernel_rfl)) ?_
  intro W base args ds gs before hval0 hW hcnd _
  have hval : ∀ (j : Nat) t v, Try.f6.params[j]? = some t → args[j]? = some v → Value.okWide Try.prog W .any base t v := hval0
  have hW' := hW
  obtain ⟨p, q, hA0, hV, rfl, hfz, hnd⟩ := hW
  have hA : DataW.TrodAll enc Try.prog W 0 (fun _ => true) true Try.f6.params.toList args.toList ds p := hA0
  rw [Try.params6] at hA hval
  obtain ⟨v0, vs0, d0, ds0, p0, q0, hargs, rfl, rfl, h0, r0⟩ := trodAll_cons hA
  obtain ⟨v1, vs1, d1, ds1, p1, q1, rfl, rfl, rfl, h1, r1⟩ := trodAll_cons r0
  obtain ⟨rfl, rfl, rfl⟩ := trodAll_nil r1
  obtain rfl : args = #[v0, v1] := by cases args; simp_all
  obtain ⟨rfl, rfl⟩ := trodVars_none hV
  have k0 := h0
  have lt0 : ∀ x ∈ p0, x.block < W.heap.size := by obtain ⟨m, hm⟩ := k0; exact DataW.trod_lt m _ _ _ hm
  obtain ⟨i0, rfl, w0⟩ := open_in (hval 0 25 v0 rfl rfl) h0
  obtain ⟨a1, len1, cap1, rfl⟩ := okWide_slice Try.underlying48 (hval 1 48 v1 rfl rfl)
  have k1 := h1
  have lt1 : ∀ x ∈ p1, x.block < W.heap.size := by obtain ⟨m, hm⟩ := k1; exact DataW.trod_lt m _ _ _ hm
  obtain ⟨z1, w1⟩ : ∃ zs, IsRow .u8 W a1 len1 cap1 zs := by
    obtain ⟨fuel, hf⟩ := h1
    rcases open_ints Try.underlying48 Try.underlying5 (by kernel_rfl) hf with ⟨hcs, _⟩ | ⟨x, l, c, zs, hcs, _, hl, hm, hz, _, hcell, hwz⟩
    · simp [Value.cells] at hcs
      obtain ⟨rfl, rfl, rfl⟩ := hcs
      exact ⟨[], .inl ⟨rfl, rfl, rfl, rfl⟩⟩
    · simp [Value.cells] at hcs
      obtain ⟨rfl, rfl, rfl⟩ := hcs
      exact ⟨zs, .inr ⟨_, rfl, hl, hm, by simpa using hz, hcell, hwz⟩⟩
  clear hA0 hval0
  refine (walk i0 a1 len1 cap1 z1 W w0 w1).mono fun e W' ⟨he, bel⟩ => ?_
  subst he
  exact ⟨_, rfl, _, _, _, [], _, [], hW', trodAll_mk1 (shut_bool Try.underlying4 _), (trodAll_cons_mk (Below.trod laidOut (by kernel_rfl) (of_decide_eq_true (by kernel_rfl)) k0 bel lt0) (trodAll_cons_mk (Below.trod laidOut (by kernel_rfl) (of_decide_eq_true (by kernel_rfl)) k1 bel lt1) trodAll_mk0)), rfl, bel.frame _, fun h => by cases h⟩

theorem over : Rows.confBytesRow.holds Try.pinned (OpenSpec.ofChange Rows.confBytesSpec) :=
  OpenClaim.holds_of_wide 6 Try.f6 rfl rfl rfl rfl rfl rfl rfl ⟨rfl, rfl, rfl, rfl, rfl⟩ rfl rfl rfl rfl rfl (by kernel_rfl) Try.func6 (by kernel_rfl)
    (of_decide_eq_true (by kernel_rfl)) (by unfold Func.isWrapper; first | (rw [if_pos (by decide +kernel)]; kernel_rfl) | (rw [if_neg (by decide +kernel)]; exact ⟨rfl, rfl⟩))
    (fun os started H enc _ => lifted os started H enc)
end Go.Proofs.Ytgpjplpfjghcgaa.confBytes
namespace Go.Proofs.Ytgpjplpfjghcgaa
theorem confBytes_holds : Rows.ConfBytesSaid := confBytes.over
#print axioms confBytes_holds
end Go.Proofs.Ytgpjplpfjghcgaa
