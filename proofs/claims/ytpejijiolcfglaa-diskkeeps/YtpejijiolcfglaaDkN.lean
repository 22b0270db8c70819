/- One call of the law's, of both disks: its text has more than 50 bytes. -/
import Derived.Test.YtpejijiolcfglaaDkL
namespace Go.Proofs.Ytpejijiolcfglaa
open Go.RowKit
set_option linter.unusedVariables false

set_option maxHeartbeats 4000000 in
set_option maxRecDepth 100000 in
theorem step_append0_l (g h : Nat) (S : Nat → Prop) (d : DS) (ar n : Int) (k0 k1 : Nat) (b : ByteArray) (w : World) (t : Two w S g h d) (hb : 50 < b.size ∧ b.size ≤ 9223372036854775807) (hn : n ≤ 9223372036854775807) (hk0 : k0 < 65536) (hk1 : k1 < 65536) :
    Calls Try.prog 9 #[.pointer (some ⟨g, 0, none⟩), .pointer (some ⟨h, 0, none⟩), .agg #[.int .i64 0, .int .i64 ar, .string b, .int .i64 n, .int .u16 k0, .int .u16 k1]] w fun e w' => e = .returned (.bool true) ∧ (∃ d', Two w' S g h d') ∧ Fr (fun k => S k ∨ k = h) w w' := by
  obtain ⟨hD, hR, hap, hS⟩ := t
  have hlt := hR.lt
  have hgl := hD.lt
  have hgS := hD.own
  have hgh : g ≠ h := fun e => hap (e ▸ hgS)
  have hh0 : (w.alloc (.cells #[.int .i64 0, .int .i64 ar, .string (b.extract 0 50), .int .i64 n, .int .u16 k0, .int .u16 k1] 30)).heap[w.heap.size]? = some (.cells #[.int .i64 0, .int .i64 ar, .string (b.extract 0 50), .int .i64 n, .int .u16 k0, .int .u16 k1] 30 (0, 0)) := by
    show (w.heap.push _)[w.heap.size]? = _
    simp
  have hz0 : (w.alloc (.cells #[.int .i64 0, .int .i64 ar, .string (b.extract 0 50), .int .i64 n, .int .u16 k0, .int .u16 k1] 30)).heap.size = w.heap.size + 1 := by
    show (w.heap.push _).size = _
    simp
  have hb2 := hb.2
  have hsz : (b.extract 0 50).size = 50 := by rw [ByteArray.size_extract]; omega
  have hB : Below w.heap.size w (w.alloc (.cells #[.int .i64 0, .int .i64 ar, .string (b.extract 0 50), .int .i64 n, .int .u16 k0, .int .u16 k1] 30)) := (Below.refl _ _).alloc (Nat.le_refl _) _
  have hh := hh0
  have hz := hz0
  obtain ⟨bs, hbs, hx, hl⟩ := str_is (b.extract 0 50)
  rw [hsz] at hl
  have hl50 : bs.length ≤ 50 := by omega
  have hD1 : Dk (w.alloc (.cells #[.int .i64 0, .int .i64 ar, .string (b.extract 0 50), .int .i64 n, .int .u16 k0, .int .u16 k1] 30)) (fun k => S k ∧ k ≠ w.heap.size) g d := (hD.to (fun k hk hs => ⟨hs, by omega⟩)).later hB
  have hR1 := hR.later hB
  have HB : Hid (Below _ _ (w.alloc (.cells #[.int .i64 0, .int .i64 ar, .string (b.extract 0 50), .int .i64 n, .int .u16 k0, .int .u16 k1] 30))) := hB
  have HS : Hid (∀ k, _) := hS
  have hS1 : ∀ k, (w.alloc (.cells #[.int .i64 0, .int .i64 ar, .string (b.extract 0 50), .int .i64 n, .int .u16 k0, .int .u16 k1] 30)).heap.size ≤ k → (fun k => S k ∧ k ≠ w.heap.size) k := fun k hk => ⟨hS k (by omega), by omega⟩
  have o1 : (w.alloc (.cells #[.int .i64 0, .int .i64 ar, .string (b.extract 0 50), .int .i64 n, .int .u16 k0, .int .u16 k1] 30)).cell? ⟨w.heap.size, 1, none⟩ = some (.int .i64 ar) := cell_of_heap hh rfl
  have o2 : (w.alloc (.cells #[.int .i64 0, .int .i64 ar, .string (b.extract 0 50), .int .i64 n, .int .u16 k0, .int .u16 k1] 30)).cell? ⟨w.heap.size, 2, none⟩ = some (.string (b.extract 0 50)) := cell_of_heap hh rfl
  have o3 : (w.alloc (.cells #[.int .i64 0, .int .i64 ar, .string (b.extract 0 50), .int .i64 n, .int .u16 k0, .int .u16 k1] 30)).cell? ⟨w.heap.size, 3, none⟩ = some (.int .i64 n) := cell_of_heap hh rfl
  have o4 : (w.alloc (.cells #[.int .i64 0, .int .i64 ar, .string (b.extract 0 50), .int .i64 n, .int .u16 k0, .int .u16 k1] 30)).cell? ⟨w.heap.size, 4, none⟩ = some (.int .u16 k0) := cell_of_heap hh rfl
  have o5 : (w.alloc (.cells #[.int .i64 0, .int .i64 ar, .string (b.extract 0 50), .int .i64 n, .int .u16 k0, .int .u16 k1] 30)).cell? ⟨w.heap.size, 5, none⟩ = some (.int .u16 k1) := cell_of_heap hh rfl
  have hne : w.heap.size ≠ g := by omega
  have hneh : w.heap.size ≠ h := by omega
  have hzl : w.heap.size < (w.alloc (.cells #[.int .i64 0, .int .i64 ar, .string (b.extract 0 50), .int .i64 n, .int .u16 k0, .int .u16 k1] 30)).heap.size := by omega
  have hzn : w.heap.size ≠ (w.alloc (.cells #[.int .i64 0, .int .i64 ar, .string (b.extract 0 50), .int .i64 n, .int .u16 k0, .int .u16 k1] 30)).heap.size := by omega
  have hgS' : (fun k => S k ∧ k ≠ w.heap.size) g := ⟨hgS, hne.symm⟩
  clear hB hD hR hS hz hz0 hh hh0
  go_enter Try.func9, Try.ntmps9
  go_wp2
  generalize (w.alloc (.cells #[.int .i64 0, .int .i64 ar, .string (b.extract 0 50), .int .i64 n, .int .u16 k0, .int .u16 k1] 30)) = W at *
  generalize hq : d.append ar bs = q at *
  obtain ⟨r, D⟩ := q
  clear hsz hl
  generalize b.extract 0 50 = s at *
  subst hbs
  have hcv : ∀ w : World, (convert 9 33 (.string (str bs))).run Try.prog w = _ := fun w => run_bytes_of_string (P := Try.prog) w 9 33 5 (str bs) Try.underlying9 Try.underlying33 Try.underlying5
  have hBB : Below W.heap.size W (W.alloc (.cells (bytesRow (str bs) (grownCap W.drew (str bs).size 0 5)) 5 ((bytesRow (str bs) (grownCap W.drew (str bs).size 0 5)).size, (bytesRow (str bs) (grownCap W.drew (str bs).size 0 5)).size + 1))).drew.drew := below_drewN ((Below.refl _ _).alloc (Nat.le_refl _) _) 2
  have hrow : Row (W.alloc (.cells (bytesRow (str bs) (grownCap W.drew (str bs).size 0 5)) 5 ((bytesRow (str bs) (grownCap W.drew (str bs).size 0 5)).size, (bytesRow (str bs) (grownCap W.drew (str bs).size 0 5)).size + 1))).drew.drew (some ⟨W.heap.size, 0, none⟩) (str bs).size bs := by
    have q := row_bytes W bs hx (by unfold maxLen; omega) (grownCap W.drew (str bs).size 0 5) ((bytesRow (str bs) (grownCap W.drew (str bs).size 0 5)).size, (bytesRow (str bs) (grownCap W.drew (str bs).size 0 5)).size + 1)
    rw [str_size]
    rw [str_size] at q
    exact q
  have hWS := hBB.size
  have c1 := dappend_any g (fun k => S k ∧ k ≠ w.heap.size) d ar (some ⟨W.heap.size, 0, none⟩) (str bs).size (grownCap W.drew (str bs).size 0 5) bs (W.alloc (.cells (bytesRow (str bs) (grownCap W.drew (str bs).size 0 5)) 5 ((bytesRow (str bs) (grownCap W.drew (str bs).size 0 5)).size, (bytesRow (str bs) (grownCap W.drew (str bs).size 0 5)).size + 1))).drew.drew (hD1.later hBB) (fun k hk => hS1 k (Nat.le_trans hWS hk)) hrow (by simp)
  rw [hq] at c1
  have q1 : (W.alloc (.cells (bytesRow (str bs) (grownCap W.drew (str bs).size 0 5)) 5 ((bytesRow (str bs) (grownCap W.drew (str bs).size 0 5)).size, (bytesRow (str bs) (grownCap W.drew (str bs).size 0 5)).size + 1))).drew.drew.cell? ⟨w.heap.size, 1, none⟩ = some (.int .i64 ar) := cell_later hBB o1
  have q2 : (W.alloc (.cells (bytesRow (str bs) (grownCap W.drew (str bs).size 0 5)) 5 ((bytesRow (str bs) (grownCap W.drew (str bs).size 0 5)).size, (bytesRow (str bs) (grownCap W.drew (str bs).size 0 5)).size + 1))).drew.drew.cell? ⟨w.heap.size, 2, none⟩ = some (.string (str bs)) := cell_later hBB o2
  have hR2 := hR1.later hBB
  have HBB : Hid (Fr (fun k => S k ∧ k ≠ w.heap.size) W (W.alloc (.cells (bytesRow (str bs) (grownCap W.drew (str bs).size 0 5)) 5 ((bytesRow (str bs) (grownCap W.drew (str bs).size 0 5)).size, (bytesRow (str bs) (grownCap W.drew (str bs).size 0 5)).size + 1))).drew.drew) := Fr.of_below hBB _ (fun k h1 h2 => by omega)
  have Q1 : Hid (_ = _) := q1
  have Q2 : Hid (_ = _) := q2
  clear hD1 hR1 hBB hrow q1 q2 hWS
  refine wp_region_noPanic ?_
  refine wp_region_held_drew (S := (fun w' => w'.cell? ⟨w.heap.size, 1, none⟩ = some (.int .i64 ar) ∧ w'.cell? ⟨w.heap.size, 2, none⟩ = some (.string (str bs)))) (by kernel_rfl) ?_ (fun hHeld => ?_)
  · exact ⟨o1, o2⟩
  refine held_take (i := 0) (d := 20) (v := ?_) rfl rfl (by kernel_rfl) (by kernel_rfl) (by kernel_rfl) (fun _ _ _ h => h) (Or.inl ⟨by rfl, ?_⟩) hHeld ?_
  rotate_left
  · (intro w hSw; (try dsimp only at hSw); go_simp; all_goals (with_reducible rfl))
  try simp only [Act.put, List.setIfInBounds_toArray, List.set_cons_zero, List.set_cons_succ]
  refine held_take (i := 1) (d := 21) (v := ?_) rfl rfl (by kernel_rfl) (by kernel_rfl) (by kernel_rfl) (fun _ _ _ h => h) (Or.inl ⟨by rfl, ?_⟩) hHeld ?_
  rotate_left
  · (intro w hSw; (try dsimp only at hSw); go_simp; all_goals (with_reducible rfl))
  try simp only [Act.put, List.setIfInBounds_toArray, List.set_cons_zero, List.set_cons_succ]
  refine held_take (i := 2) (d := 22) (v := ?_) rfl rfl (by kernel_rfl) (by kernel_rfl) (by kernel_rfl) (fun _ _ _ h => h) (Or.inl ⟨by rfl, ?_⟩) hHeld ?_
  rotate_left
  · (intro w hSw; (try dsimp only at hSw); go_simp; all_goals (with_reducible rfl))
  try simp only [Act.put, List.setIfInBounds_toArray, List.set_cons_zero, List.set_cons_succ]
  refine held_take (i := 3) (d := 23) (v := ?_) rfl rfl (by kernel_rfl) (by kernel_rfl) (by kernel_rfl) (fun _ _ _ h => h) (Or.inl ⟨by rfl, ?_⟩) hHeld ?_
  rotate_left
  · (intro w hSw; (try dsimp only at hSw); go_simp; all_goals (with_reducible rfl))
  try simp only [Act.put, List.setIfInBounds_toArray, List.set_cons_zero, List.set_cons_succ]
  refine held_take (i := 4) (d := 24) (v := ?_) rfl rfl (by kernel_rfl) (by kernel_rfl) (by kernel_rfl) (fun _ _ _ h => h) (Or.inl ⟨by rfl, ?_⟩) hHeld ?_
  rotate_left
  · (intro w hSw; (try dsimp only at hSw); go_simp; all_goals (with_reducible rfl))
  try simp only [Act.put, List.setIfInBounds_toArray, List.set_cons_zero, List.set_cons_succ]
  refine held_take (i := 7) (d := 27) (v := ?_) rfl rfl (by kernel_rfl) (by kernel_rfl) (by kernel_rfl) (fun _ _ _ h => h) (Or.inl ⟨by rfl, ?_⟩) hHeld ?_
  rotate_left
  · (intro w hSw; (try dsimp only at hSw); go_simp; all_goals (with_reducible rfl))
  try simp only [Act.put, List.setIfInBounds_toArray, List.set_cons_zero, List.set_cons_succ]
  refine held_take (i := 8) (d := 28) (v := ?_) rfl rfl (by kernel_rfl) (by kernel_rfl) (by kernel_rfl) (fun _ _ _ h => h) (Or.inl ⟨by rfl, ?_⟩) hHeld ?_
  rotate_left
  · (intro w hSw; (try dsimp only at hSw); go_simp; all_goals (with_reducible rfl))
  try simp only [Act.put, List.setIfInBounds_toArray, List.set_cons_zero, List.set_cons_succ]
  refine held_take (i := 9) (d := 29) (v := ?_) rfl rfl (by kernel_rfl) (by kernel_rfl) (by kernel_rfl) (fun _ _ _ h => h) (Or.inl ⟨by rfl, ?_⟩) hHeld ?_
  rotate_left
  · (intro w hSw; (try dsimp only at hSw); go_simp; all_goals (with_reducible rfl))
  try simp only [Act.put, List.setIfInBounds_toArray, List.set_cons_zero, List.set_cons_succ]
  refine held_take (i := 10) (d := 30) (v := ?_) rfl rfl (by kernel_rfl) (by kernel_rfl) (by kernel_rfl) (fun _ _ _ h => h) (Or.inl ⟨by rfl, ?_⟩) hHeld ?_
  rotate_left
  · (intro w hSw; (try dsimp only at hSw); go_simp; all_goals (with_reducible rfl))
  try simp only [Act.put, List.setIfInBounds_toArray, List.set_cons_zero, List.set_cons_succ]
  refine held_take (i := 11) (d := 31) (v := ?_) rfl rfl (by kernel_rfl) (by kernel_rfl) (by kernel_rfl) (fun _ _ _ h => h) (Or.inl ⟨by rfl, ?_⟩) hHeld ?_
  rotate_left
  · (intro w hSw; (try dsimp only at hSw); go_simp; all_goals (with_reducible rfl))
  try simp only [Act.put, List.setIfInBounds_toArray, List.set_cons_zero, List.set_cons_succ]
  refine wpAnyH_ready (rs := [5]) (by kernel_rfl) (by simp) ?_
  refine AllReadyH.cons rfl (fun K hK => ?_) AllReadyH.nil
  go_simp
  refine hK.out _ _ ?_ (fun hHeld => ?_)
  · exact ⟨Q1.out, Q2.out⟩
  clear hK K
  try simp only [Act.put, List.setIfInBounds_toArray, List.set_cons_zero, List.set_cons_succ]
  refine wpAnyH_ready (rs := [6]) (by kernel_rfl) (by simp) ?_
  refine AllReadyH.cons rfl (fun K hK => ?_) AllReadyH.nil
  go_simp
  refine c1.mono ?_
  rintro e w1 ⟨rfl, hD3, hf1⟩
  have p1 : w1.cell? ⟨w.heap.size, 1, none⟩ = some (.int .i64 ar) := hf1.cell Q1.out (fun hk => hk.2 rfl)
  have p2 : w1.cell? ⟨w.heap.size, 2, none⟩ = some (.string (str bs)) := hf1.cell Q2.out (fun hk => hk.2 rfl)
  have hR3 := hR2.fr hf1 (fun hk => hap hk.1)
  go_wp2_with fail
  refine hK.out _ _ ?_ (fun hHeld => ?_)
  · exact ⟨p1, p2⟩
  clear hK K
  try simp only [Act.put, List.setIfInBounds_toArray, List.set_cons_zero, List.set_cons_succ]
  refine wpAnyH_ready (rs := [12]) (by kernel_rfl) (by simp) ?_
  refine AllReadyH.cons rfl (fun K hK => ?_) AllReadyH.nil
  go_simp
  refine (rappend_any h d ar bs w1 hR3 hx (by omega)).mono ?_
  rintro e w2 ⟨rfl, hR4, hf2⟩
  rw [hq] at hR4 ⊢
  go_wp2_with fail
  refine hK.out _ _ ?_ (fun hHeld => ?_)
  · exact ⟨hf2.cell p1 hneh, hf2.cell p2 hneh⟩
  clear hK K
  try simp only [Act.put, List.setIfInBounds_toArray, List.set_cons_zero, List.set_cons_succ]
  refine held_take (i := 13) (d := 33) (v := ?_) rfl rfl (by kernel_rfl) (by kernel_rfl) (by kernel_rfl) (fun _ _ _ h => h) (Or.inl ⟨by rfl, ?_⟩) hHeld ?_
  rotate_left
  · (intro w hSw; (try dsimp only at hSw); go_simp; all_goals (with_reducible rfl))
  try simp only [Act.put, List.setIfInBounds_toArray, List.set_cons_zero, List.set_cons_succ]
  refine held_take (i := 14) (d := 6) (v := ?_) rfl rfl (by kernel_rfl) (by kernel_rfl) (by kernel_rfl) (fun _ _ _ h => h) (Or.inl ⟨by rfl, ?_⟩) hHeld ?_
  rotate_left
  · (intro w hSw; (try dsimp only at hSw); go_simp; all_goals (with_reducible rfl))
  try simp only [Act.put, List.setIfInBounds_toArray, List.set_cons_zero, List.set_cons_succ]
  refine wpAnyH_done (by kernel_rfl) ?_ _
  refine NoPanic.normal ?_
  go_wp2
  go_ret
  exact ⟨rfl, two_told (Two.fin HB.out hap HS.out (fun k hk => hk.1) hD3 (HBB.out.trans hf1) hR4 hf2)⟩

set_option maxHeartbeats 4000000 in
set_option maxRecDepth 100000 in
theorem step_append1_l (g h : Nat) (S : Nat → Prop) (d : DS) (ar n : Int) (k0 k1 : Nat) (b : ByteArray) (w : World) (t : Two w S g h d) (hb : 50 < b.size ∧ b.size ≤ 9223372036854775807) (hn : n ≤ 9223372036854775807) (hk0 : k0 < 65536) (hk1 : k1 < 65536) :
    Calls Try.prog 9 #[.pointer (some ⟨g, 0, none⟩), .pointer (some ⟨h, 0, none⟩), .agg #[.int .i64 1, .int .i64 ar, .string b, .int .i64 n, .int .u16 k0, .int .u16 k1]] w fun e w' => e = .returned (.bool true) ∧ (∃ d', Two w' S g h d') ∧ Fr (fun k => S k ∨ k = h) w w' := by
  obtain ⟨hD, hR, hap, hS⟩ := t
  have hlt := hR.lt
  have hgl := hD.lt
  have hgS := hD.own
  have hgh : g ≠ h := fun e => hap (e ▸ hgS)
  have hh0 : (w.alloc (.cells #[.int .i64 1, .int .i64 ar, .string (b.extract 0 50), .int .i64 n, .int .u16 k0, .int .u16 k1] 30)).heap[w.heap.size]? = some (.cells #[.int .i64 1, .int .i64 ar, .string (b.extract 0 50), .int .i64 n, .int .u16 k0, .int .u16 k1] 30 (0, 0)) := by
    show (w.heap.push _)[w.heap.size]? = _
    simp
  have hz0 : (w.alloc (.cells #[.int .i64 1, .int .i64 ar, .string (b.extract 0 50), .int .i64 n, .int .u16 k0, .int .u16 k1] 30)).heap.size = w.heap.size + 1 := by
    show (w.heap.push _).size = _
    simp
  have hb2 := hb.2
  have hsz : (b.extract 0 50).size = 50 := by rw [ByteArray.size_extract]; omega
  have hB : Below w.heap.size w (w.alloc (.cells #[.int .i64 1, .int .i64 ar, .string (b.extract 0 50), .int .i64 n, .int .u16 k0, .int .u16 k1] 30)) := (Below.refl _ _).alloc (Nat.le_refl _) _
  have hh := hh0
  have hz := hz0
  obtain ⟨bs, hbs, hx, hl⟩ := str_is (b.extract 0 50)
  rw [hsz] at hl
  have hl50 : bs.length ≤ 50 := by omega
  have hD1 : Dk (w.alloc (.cells #[.int .i64 1, .int .i64 ar, .string (b.extract 0 50), .int .i64 n, .int .u16 k0, .int .u16 k1] 30)) (fun k => S k ∧ k ≠ w.heap.size) g d := (hD.to (fun k hk hs => ⟨hs, by omega⟩)).later hB
  have hR1 := hR.later hB
  have HB : Hid (Below _ _ (w.alloc (.cells #[.int .i64 1, .int .i64 ar, .string (b.extract 0 50), .int .i64 n, .int .u16 k0, .int .u16 k1] 30))) := hB
  have HS : Hid (∀ k, _) := hS
  have hS1 : ∀ k, (w.alloc (.cells #[.int .i64 1, .int .i64 ar, .string (b.extract 0 50), .int .i64 n, .int .u16 k0, .int .u16 k1] 30)).heap.size ≤ k → (fun k => S k ∧ k ≠ w.heap.size) k := fun k hk => ⟨hS k (by omega), by omega⟩
  have o1 : (w.alloc (.cells #[.int .i64 1, .int .i64 ar, .string (b.extract 0 50), .int .i64 n, .int .u16 k0, .int .u16 k1] 30)).cell? ⟨w.heap.size, 1, none⟩ = some (.int .i64 ar) := cell_of_heap hh rfl
  have o2 : (w.alloc (.cells #[.int .i64 1, .int .i64 ar, .string (b.extract 0 50), .int .i64 n, .int .u16 k0, .int .u16 k1] 30)).cell? ⟨w.heap.size, 2, none⟩ = some (.string (b.extract 0 50)) := cell_of_heap hh rfl
  have o3 : (w.alloc (.cells #[.int .i64 1, .int .i64 ar, .string (b.extract 0 50), .int .i64 n, .int .u16 k0, .int .u16 k1] 30)).cell? ⟨w.heap.size, 3, none⟩ = some (.int .i64 n) := cell_of_heap hh rfl
  have o4 : (w.alloc (.cells #[.int .i64 1, .int .i64 ar, .string (b.extract 0 50), .int .i64 n, .int .u16 k0, .int .u16 k1] 30)).cell? ⟨w.heap.size, 4, none⟩ = some (.int .u16 k0) := cell_of_heap hh rfl
  have o5 : (w.alloc (.cells #[.int .i64 1, .int .i64 ar, .string (b.extract 0 50), .int .i64 n, .int .u16 k0, .int .u16 k1] 30)).cell? ⟨w.heap.size, 5, none⟩ = some (.int .u16 k1) := cell_of_heap hh rfl
  have hne : w.heap.size ≠ g := by omega
  have hneh : w.heap.size ≠ h := by omega
  have hzl : w.heap.size < (w.alloc (.cells #[.int .i64 1, .int .i64 ar, .string (b.extract 0 50), .int .i64 n, .int .u16 k0, .int .u16 k1] 30)).heap.size := by omega
  have hzn : w.heap.size ≠ (w.alloc (.cells #[.int .i64 1, .int .i64 ar, .string (b.extract 0 50), .int .i64 n, .int .u16 k0, .int .u16 k1] 30)).heap.size := by omega
  have hgS' : (fun k => S k ∧ k ≠ w.heap.size) g := ⟨hgS, hne.symm⟩
  clear hB hD hR hS hz hz0 hh hh0
  go_enter Try.func9, Try.ntmps9
  go_wp2
  generalize (w.alloc (.cells #[.int .i64 1, .int .i64 ar, .string (b.extract 0 50), .int .i64 n, .int .u16 k0, .int .u16 k1] 30)) = W at *
  generalize hq : d.append ar bs = q at *
  obtain ⟨r, D⟩ := q
  clear hsz hl
  generalize b.extract 0 50 = s at *
  subst hbs
  have hcv : ∀ w : World, (convert 9 33 (.string (str bs))).run Try.prog w = _ := fun w => run_bytes_of_string (P := Try.prog) w 9 33 5 (str bs) Try.underlying9 Try.underlying33 Try.underlying5
  have hBB : Below W.heap.size W (W.alloc (.cells (bytesRow (str bs) (grownCap W.drew (str bs).size 0 5)) 5 ((bytesRow (str bs) (grownCap W.drew (str bs).size 0 5)).size, (bytesRow (str bs) (grownCap W.drew (str bs).size 0 5)).size + 1))).drew.drew := below_drewN ((Below.refl _ _).alloc (Nat.le_refl _) _) 2
  have hrow : Row (W.alloc (.cells (bytesRow (str bs) (grownCap W.drew (str bs).size 0 5)) 5 ((bytesRow (str bs) (grownCap W.drew (str bs).size 0 5)).size, (bytesRow (str bs) (grownCap W.drew (str bs).size 0 5)).size + 1))).drew.drew (some ⟨W.heap.size, 0, none⟩) (str bs).size bs := by
    have q := row_bytes W bs hx (by unfold maxLen; omega) (grownCap W.drew (str bs).size 0 5) ((bytesRow (str bs) (grownCap W.drew (str bs).size 0 5)).size, (bytesRow (str bs) (grownCap W.drew (str bs).size 0 5)).size + 1)
    rw [str_size]
    rw [str_size] at q
    exact q
  have hWS := hBB.size
  have c1 := dappend_any g (fun k => S k ∧ k ≠ w.heap.size) d ar (some ⟨W.heap.size, 0, none⟩) (str bs).size (grownCap W.drew (str bs).size 0 5) bs (W.alloc (.cells (bytesRow (str bs) (grownCap W.drew (str bs).size 0 5)) 5 ((bytesRow (str bs) (grownCap W.drew (str bs).size 0 5)).size, (bytesRow (str bs) (grownCap W.drew (str bs).size 0 5)).size + 1))).drew.drew (hD1.later hBB) (fun k hk => hS1 k (Nat.le_trans hWS hk)) hrow (by simp)
  rw [hq] at c1
  have q1 : (W.alloc (.cells (bytesRow (str bs) (grownCap W.drew (str bs).size 0 5)) 5 ((bytesRow (str bs) (grownCap W.drew (str bs).size 0 5)).size, (bytesRow (str bs) (grownCap W.drew (str bs).size 0 5)).size + 1))).drew.drew.cell? ⟨w.heap.size, 1, none⟩ = some (.int .i64 ar) := cell_later hBB o1
  have q2 : (W.alloc (.cells (bytesRow (str bs) (grownCap W.drew (str bs).size 0 5)) 5 ((bytesRow (str bs) (grownCap W.drew (str bs).size 0 5)).size, (bytesRow (str bs) (grownCap W.drew (str bs).size 0 5)).size + 1))).drew.drew.cell? ⟨w.heap.size, 2, none⟩ = some (.string (str bs)) := cell_later hBB o2
  have hR2 := hR1.later hBB
  have HBB : Hid (Fr (fun k => S k ∧ k ≠ w.heap.size) W (W.alloc (.cells (bytesRow (str bs) (grownCap W.drew (str bs).size 0 5)) 5 ((bytesRow (str bs) (grownCap W.drew (str bs).size 0 5)).size, (bytesRow (str bs) (grownCap W.drew (str bs).size 0 5)).size + 1))).drew.drew) := Fr.of_below hBB _ (fun k h1 h2 => by omega)
  have Q1 : Hid (_ = _) := q1
  have Q2 : Hid (_ = _) := q2
  clear hD1 hR1 hBB hrow q1 q2 hWS
  refine wp_region_noPanic ?_
  refine wp_region_held_drew (S := (fun w' => w'.cell? ⟨w.heap.size, 1, none⟩ = some (.int .i64 ar) ∧ w'.cell? ⟨w.heap.size, 2, none⟩ = some (.string (str bs)))) (by kernel_rfl) ?_ (fun hHeld => ?_)
  · exact ⟨o1, o2⟩
  refine held_take (i := 0) (d := 20) (v := ?_) rfl rfl (by kernel_rfl) (by kernel_rfl) (by kernel_rfl) (fun _ _ _ h => h) (Or.inl ⟨by rfl, ?_⟩) hHeld ?_
  rotate_left
  · (intro w hSw; (try dsimp only at hSw); go_simp; all_goals (with_reducible rfl))
  try simp only [Act.put, List.setIfInBounds_toArray, List.set_cons_zero, List.set_cons_succ]
  refine held_take (i := 1) (d := 21) (v := ?_) rfl rfl (by kernel_rfl) (by kernel_rfl) (by kernel_rfl) (fun _ _ _ h => h) (Or.inl ⟨by rfl, ?_⟩) hHeld ?_
  rotate_left
  · (intro w hSw; (try dsimp only at hSw); go_simp; all_goals (with_reducible rfl))
  try simp only [Act.put, List.setIfInBounds_toArray, List.set_cons_zero, List.set_cons_succ]
  refine held_take (i := 2) (d := 22) (v := ?_) rfl rfl (by kernel_rfl) (by kernel_rfl) (by kernel_rfl) (fun _ _ _ h => h) (Or.inl ⟨by rfl, ?_⟩) hHeld ?_
  rotate_left
  · (intro w hSw; (try dsimp only at hSw); go_simp; all_goals (with_reducible rfl))
  try simp only [Act.put, List.setIfInBounds_toArray, List.set_cons_zero, List.set_cons_succ]
  refine held_take (i := 3) (d := 23) (v := ?_) rfl rfl (by kernel_rfl) (by kernel_rfl) (by kernel_rfl) (fun _ _ _ h => h) (Or.inl ⟨by rfl, ?_⟩) hHeld ?_
  rotate_left
  · (intro w hSw; (try dsimp only at hSw); go_simp; all_goals (with_reducible rfl))
  try simp only [Act.put, List.setIfInBounds_toArray, List.set_cons_zero, List.set_cons_succ]
  refine held_take (i := 4) (d := 24) (v := ?_) rfl rfl (by kernel_rfl) (by kernel_rfl) (by kernel_rfl) (fun _ _ _ h => h) (Or.inl ⟨by rfl, ?_⟩) hHeld ?_
  rotate_left
  · (intro w hSw; (try dsimp only at hSw); go_simp; all_goals (with_reducible rfl))
  try simp only [Act.put, List.setIfInBounds_toArray, List.set_cons_zero, List.set_cons_succ]
  refine held_take (i := 7) (d := 27) (v := ?_) rfl rfl (by kernel_rfl) (by kernel_rfl) (by kernel_rfl) (fun _ _ _ h => h) (Or.inl ⟨by rfl, ?_⟩) hHeld ?_
  rotate_left
  · (intro w hSw; (try dsimp only at hSw); go_simp; all_goals (with_reducible rfl))
  try simp only [Act.put, List.setIfInBounds_toArray, List.set_cons_zero, List.set_cons_succ]
  refine held_take (i := 8) (d := 28) (v := ?_) rfl rfl (by kernel_rfl) (by kernel_rfl) (by kernel_rfl) (fun _ _ _ h => h) (Or.inl ⟨by rfl, ?_⟩) hHeld ?_
  rotate_left
  · (intro w hSw; (try dsimp only at hSw); go_simp; all_goals (with_reducible rfl))
  try simp only [Act.put, List.setIfInBounds_toArray, List.set_cons_zero, List.set_cons_succ]
  refine held_take (i := 9) (d := 29) (v := ?_) rfl rfl (by kernel_rfl) (by kernel_rfl) (by kernel_rfl) (fun _ _ _ h => h) (Or.inl ⟨by rfl, ?_⟩) hHeld ?_
  rotate_left
  · (intro w hSw; (try dsimp only at hSw); go_simp; all_goals (with_reducible rfl))
  try simp only [Act.put, List.setIfInBounds_toArray, List.set_cons_zero, List.set_cons_succ]
  refine held_take (i := 10) (d := 30) (v := ?_) rfl rfl (by kernel_rfl) (by kernel_rfl) (by kernel_rfl) (fun _ _ _ h => h) (Or.inl ⟨by rfl, ?_⟩) hHeld ?_
  rotate_left
  · (intro w hSw; (try dsimp only at hSw); go_simp; all_goals (with_reducible rfl))
  try simp only [Act.put, List.setIfInBounds_toArray, List.set_cons_zero, List.set_cons_succ]
  refine held_take (i := 11) (d := 31) (v := ?_) rfl rfl (by kernel_rfl) (by kernel_rfl) (by kernel_rfl) (fun _ _ _ h => h) (Or.inl ⟨by rfl, ?_⟩) hHeld ?_
  rotate_left
  · (intro w hSw; (try dsimp only at hSw); go_simp; all_goals (with_reducible rfl))
  try simp only [Act.put, List.setIfInBounds_toArray, List.set_cons_zero, List.set_cons_succ]
  refine wpAnyH_ready (rs := [5]) (by kernel_rfl) (by simp) ?_
  refine AllReadyH.cons rfl (fun K hK => ?_) AllReadyH.nil
  go_simp
  refine hK.out _ _ ?_ (fun hHeld => ?_)
  · exact ⟨Q1.out, Q2.out⟩
  clear hK K
  try simp only [Act.put, List.setIfInBounds_toArray, List.set_cons_zero, List.set_cons_succ]
  refine wpAnyH_ready (rs := [6]) (by kernel_rfl) (by simp) ?_
  refine AllReadyH.cons rfl (fun K hK => ?_) AllReadyH.nil
  go_simp
  refine c1.mono ?_
  rintro e w1 ⟨rfl, hD3, hf1⟩
  have p1 : w1.cell? ⟨w.heap.size, 1, none⟩ = some (.int .i64 ar) := hf1.cell Q1.out (fun hk => hk.2 rfl)
  have p2 : w1.cell? ⟨w.heap.size, 2, none⟩ = some (.string (str bs)) := hf1.cell Q2.out (fun hk => hk.2 rfl)
  have hR3 := hR2.fr hf1 (fun hk => hap hk.1)
  go_wp2_with fail
  refine hK.out _ _ ?_ (fun hHeld => ?_)
  · exact ⟨p1, p2⟩
  clear hK K
  try simp only [Act.put, List.setIfInBounds_toArray, List.set_cons_zero, List.set_cons_succ]
  refine wpAnyH_ready (rs := [12]) (by kernel_rfl) (by simp) ?_
  refine AllReadyH.cons rfl (fun K hK => ?_) AllReadyH.nil
  go_simp
  refine (rappend_any h d ar bs w1 hR3 hx (by omega)).mono ?_
  rintro e w2 ⟨rfl, hR4, hf2⟩
  rw [hq] at hR4 ⊢
  go_wp2_with fail
  refine hK.out _ _ ?_ (fun hHeld => ?_)
  · exact ⟨hf2.cell p1 hneh, hf2.cell p2 hneh⟩
  clear hK K
  try simp only [Act.put, List.setIfInBounds_toArray, List.set_cons_zero, List.set_cons_succ]
  refine held_take (i := 13) (d := 33) (v := ?_) rfl rfl (by kernel_rfl) (by kernel_rfl) (by kernel_rfl) (fun _ _ _ h => h) (Or.inl ⟨by rfl, ?_⟩) hHeld ?_
  rotate_left
  · (intro w hSw; (try dsimp only at hSw); go_simp; all_goals (with_reducible rfl))
  try simp only [Act.put, List.setIfInBounds_toArray, List.set_cons_zero, List.set_cons_succ]
  refine held_take (i := 14) (d := 6) (v := ?_) rfl rfl (by kernel_rfl) (by kernel_rfl) (by kernel_rfl) (fun _ _ _ h => h) (Or.inl ⟨by rfl, ?_⟩) hHeld ?_
  rotate_left
  · (intro w hSw; (try dsimp only at hSw); go_simp; all_goals (with_reducible rfl))
  try simp only [Act.put, List.setIfInBounds_toArray, List.set_cons_zero, List.set_cons_succ]
  refine wpAnyH_done (by kernel_rfl) ?_ _
  refine NoPanic.normal ?_
  go_wp2
  go_ret
  exact ⟨rfl, two_told (Two.fin HB.out hap HS.out (fun k hk => hk.1) hD3 (HBB.out.trans hf1) hR4 hf2)⟩

set_option maxHeartbeats 4000000 in
set_option maxRecDepth 100000 in
theorem step_sync_l (g h : Nat) (S : Nat → Prop) (d : DS) (ar n : Int) (k0 k1 : Nat) (b : ByteArray) (w : World) (t : Two w S g h d) (hb : 50 < b.size ∧ b.size ≤ 9223372036854775807) (hn : n ≤ 9223372036854775807) (hk0 : k0 < 65536) (hk1 : k1 < 65536) :
    Calls Try.prog 9 #[.pointer (some ⟨g, 0, none⟩), .pointer (some ⟨h, 0, none⟩), .agg #[.int .i64 2, .int .i64 ar, .string b, .int .i64 n, .int .u16 k0, .int .u16 k1]] w fun e w' => e = .returned (.bool true) ∧ (∃ d', Two w' S g h d') ∧ Fr (fun k => S k ∨ k = h) w w' := by
  obtain ⟨hD, hR, hap, hS⟩ := t
  have hlt := hR.lt
  have hgl := hD.lt
  have hgS := hD.own
  have hgh : g ≠ h := fun e => hap (e ▸ hgS)
  have hh0 : (w.alloc (.cells #[.int .i64 2, .int .i64 ar, .string (b.extract 0 50), .int .i64 n, .int .u16 k0, .int .u16 k1] 30)).heap[w.heap.size]? = some (.cells #[.int .i64 2, .int .i64 ar, .string (b.extract 0 50), .int .i64 n, .int .u16 k0, .int .u16 k1] 30 (0, 0)) := by
    show (w.heap.push _)[w.heap.size]? = _
    simp
  have hz0 : (w.alloc (.cells #[.int .i64 2, .int .i64 ar, .string (b.extract 0 50), .int .i64 n, .int .u16 k0, .int .u16 k1] 30)).heap.size = w.heap.size + 1 := by
    show (w.heap.push _).size = _
    simp
  have hb2 := hb.2
  have hsz : (b.extract 0 50).size = 50 := by rw [ByteArray.size_extract]; omega
  have hB : Below w.heap.size w (w.alloc (.cells #[.int .i64 2, .int .i64 ar, .string (b.extract 0 50), .int .i64 n, .int .u16 k0, .int .u16 k1] 30)) := (Below.refl _ _).alloc (Nat.le_refl _) _
  have hh := hh0
  have hz := hz0
  obtain ⟨bs, hbs, hx, hl⟩ := str_is (b.extract 0 50)
  rw [hsz] at hl
  have hl50 : bs.length ≤ 50 := by omega
  have hD1 : Dk (w.alloc (.cells #[.int .i64 2, .int .i64 ar, .string (b.extract 0 50), .int .i64 n, .int .u16 k0, .int .u16 k1] 30)) (fun k => S k ∧ k ≠ w.heap.size) g d := (hD.to (fun k hk hs => ⟨hs, by omega⟩)).later hB
  have hR1 := hR.later hB
  have HB : Hid (Below _ _ (w.alloc (.cells #[.int .i64 2, .int .i64 ar, .string (b.extract 0 50), .int .i64 n, .int .u16 k0, .int .u16 k1] 30))) := hB
  have HS : Hid (∀ k, _) := hS
  have hS1 : ∀ k, (w.alloc (.cells #[.int .i64 2, .int .i64 ar, .string (b.extract 0 50), .int .i64 n, .int .u16 k0, .int .u16 k1] 30)).heap.size ≤ k → (fun k => S k ∧ k ≠ w.heap.size) k := fun k hk => ⟨hS k (by omega), by omega⟩
  have o1 : (w.alloc (.cells #[.int .i64 2, .int .i64 ar, .string (b.extract 0 50), .int .i64 n, .int .u16 k0, .int .u16 k1] 30)).cell? ⟨w.heap.size, 1, none⟩ = some (.int .i64 ar) := cell_of_heap hh rfl
  have o2 : (w.alloc (.cells #[.int .i64 2, .int .i64 ar, .string (b.extract 0 50), .int .i64 n, .int .u16 k0, .int .u16 k1] 30)).cell? ⟨w.heap.size, 2, none⟩ = some (.string (b.extract 0 50)) := cell_of_heap hh rfl
  have o3 : (w.alloc (.cells #[.int .i64 2, .int .i64 ar, .string (b.extract 0 50), .int .i64 n, .int .u16 k0, .int .u16 k1] 30)).cell? ⟨w.heap.size, 3, none⟩ = some (.int .i64 n) := cell_of_heap hh rfl
  have o4 : (w.alloc (.cells #[.int .i64 2, .int .i64 ar, .string (b.extract 0 50), .int .i64 n, .int .u16 k0, .int .u16 k1] 30)).cell? ⟨w.heap.size, 4, none⟩ = some (.int .u16 k0) := cell_of_heap hh rfl
  have o5 : (w.alloc (.cells #[.int .i64 2, .int .i64 ar, .string (b.extract 0 50), .int .i64 n, .int .u16 k0, .int .u16 k1] 30)).cell? ⟨w.heap.size, 5, none⟩ = some (.int .u16 k1) := cell_of_heap hh rfl
  have hne : w.heap.size ≠ g := by omega
  have hneh : w.heap.size ≠ h := by omega
  have hzl : w.heap.size < (w.alloc (.cells #[.int .i64 2, .int .i64 ar, .string (b.extract 0 50), .int .i64 n, .int .u16 k0, .int .u16 k1] 30)).heap.size := by omega
  have hzn : w.heap.size ≠ (w.alloc (.cells #[.int .i64 2, .int .i64 ar, .string (b.extract 0 50), .int .i64 n, .int .u16 k0, .int .u16 k1] 30)).heap.size := by omega
  have hgS' : (fun k => S k ∧ k ≠ w.heap.size) g := ⟨hgS, hne.symm⟩
  clear hB hD hR hS hz hz0 hh hh0
  go_enter Try.func9, Try.ntmps9
  go_wp2
  generalize (w.alloc (.cells #[.int .i64 2, .int .i64 ar, .string (b.extract 0 50), .int .i64 n, .int .u16 k0, .int .u16 k1] 30)) = W at *
  have hR2 : Rk W.drew h d := hR1
  have hD2 : Dk W.drew (fun k => S k ∧ k ≠ w.heap.size) g d := hD1.drews (k := 1)
  clear hD1 hR1
  generalize hq : d.sync ar = q at *
  obtain ⟨r, D⟩ := q
  have c1 := dsync_any g _ d ar W.drew hD2
  rw [hq] at c1
  clear hD2
  refine wp_region_noPanic ?_
  refine wp_region_held_drew (S := (fun w' => w'.cell? ⟨w.heap.size, 1, none⟩ = some (.int .i64 ar))) (by kernel_rfl) ?_ (fun hHeld => ?_)
  · exact o1
  refine held_take (i := 0) (d := 36) (v := ?_) rfl rfl (by kernel_rfl) (by kernel_rfl) (by kernel_rfl) (fun _ _ _ h => h) (Or.inl ⟨by rfl, ?_⟩) hHeld ?_
  rotate_left
  · (intro w hSw; (try dsimp only at hSw); go_simp; all_goals (with_reducible rfl))
  try simp only [Act.put, List.setIfInBounds_toArray, List.set_cons_zero, List.set_cons_succ]
  refine held_take (i := 1) (d := 37) (v := ?_) rfl rfl (by kernel_rfl) (by kernel_rfl) (by kernel_rfl) (fun _ _ _ h => h) (Or.inl ⟨by rfl, ?_⟩) hHeld ?_
  rotate_left
  · (intro w hSw; (try dsimp only at hSw); go_simp; all_goals (with_reducible rfl))
  try simp only [Act.put, List.setIfInBounds_toArray, List.set_cons_zero, List.set_cons_succ]
  refine held_take (i := 2) (d := 38) (v := ?_) rfl rfl (by kernel_rfl) (by kernel_rfl) (by kernel_rfl) (fun _ _ _ h => h) (Or.inl ⟨by rfl, ?_⟩) hHeld ?_
  rotate_left
  · (intro w hSw; (try dsimp only at hSw); go_simp; all_goals (with_reducible rfl))
  try simp only [Act.put, List.setIfInBounds_toArray, List.set_cons_zero, List.set_cons_succ]
  refine held_take (i := 4) (d := 40) (v := ?_) rfl rfl (by kernel_rfl) (by kernel_rfl) (by kernel_rfl) (fun _ _ _ h => h) (Or.inl ⟨by rfl, ?_⟩) hHeld ?_
  rotate_left
  · (intro w hSw; (try dsimp only at hSw); go_simp; all_goals (with_reducible rfl))
  try simp only [Act.put, List.setIfInBounds_toArray, List.set_cons_zero, List.set_cons_succ]
  refine held_take (i := 5) (d := 41) (v := ?_) rfl rfl (by kernel_rfl) (by kernel_rfl) (by kernel_rfl) (fun _ _ _ h => h) (Or.inl ⟨by rfl, ?_⟩) hHeld ?_
  rotate_left
  · (intro w hSw; (try dsimp only at hSw); go_simp; all_goals (with_reducible rfl))
  try simp only [Act.put, List.setIfInBounds_toArray, List.set_cons_zero, List.set_cons_succ]
  refine held_take (i := 6) (d := 42) (v := ?_) rfl rfl (by kernel_rfl) (by kernel_rfl) (by kernel_rfl) (fun _ _ _ h => h) (Or.inl ⟨by rfl, ?_⟩) hHeld ?_
  rotate_left
  · (intro w hSw; (try dsimp only at hSw); go_simp; all_goals (with_reducible rfl))
  try simp only [Act.put, List.setIfInBounds_toArray, List.set_cons_zero, List.set_cons_succ]
  refine wpAnyH_ready (rs := [3]) (by kernel_rfl) (by simp) ?_
  refine AllReadyH.cons rfl (fun K hK => ?_) AllReadyH.nil
  go_simp
  refine c1.mono ?_
  rintro e w1 ⟨rfl, hD3, hf1⟩
  have p1 : w1.cell? ⟨w.heap.size, 1, none⟩ = some (.int .i64 ar) := hf1.cell o1 hne
  have hR3 := hR2.fr hf1 hgh.symm
  go_wp2_with fail
  refine hK.out _ _ ?_ (fun hHeld => ?_)
  · exact p1
  clear hK K
  try simp only [Act.put, List.setIfInBounds_toArray, List.set_cons_zero, List.set_cons_succ]
  refine wpAnyH_ready (rs := [7]) (by kernel_rfl) (by simp) ?_
  refine AllReadyH.cons rfl (fun K hK => ?_) AllReadyH.nil
  go_simp
  refine (rsync_any h d ar w1 hR3).mono ?_
  rintro e w2 ⟨rfl, hR4, hf2⟩
  rw [hq] at hR4 ⊢
  have r1 : w2.cell? ⟨w.heap.size, 1, none⟩ = some (.int .i64 ar) := hf2.cell p1 hneh
  go_wp2_with fail
  refine hK.out _ _ ?_ (fun hHeld => ?_)
  · exact r1
  clear hK K
  try simp only [Act.put, List.setIfInBounds_toArray, List.set_cons_zero, List.set_cons_succ]
  refine held_take (i := 8) (d := 44) (v := ?_) rfl rfl (by kernel_rfl) (by kernel_rfl) (by kernel_rfl) (fun _ _ _ h => h) (Or.inl ⟨by rfl, ?_⟩) hHeld ?_
  rotate_left
  · (intro w hSw; (try dsimp only at hSw); go_simp; all_goals (with_reducible rfl))
  try simp only [Act.put, List.setIfInBounds_toArray, List.set_cons_zero, List.set_cons_succ]
  refine held_take (i := 9) (d := 6) (v := ?_) rfl rfl (by kernel_rfl) (by kernel_rfl) (by kernel_rfl) (fun _ _ _ h => h) (Or.inl ⟨by rfl, ?_⟩) hHeld ?_
  rotate_left
  · (intro w hSw; (try dsimp only at hSw); go_simp; all_goals (with_reducible rfl))
  try simp only [Act.put, List.setIfInBounds_toArray, List.set_cons_zero, List.set_cons_succ]
  refine wpAnyH_done (by kernel_rfl) ?_ _
  refine NoPanic.normal ?_
  go_wp2
  go_ret
  exact ⟨rfl, two_told (Two.fin HB.out hap HS.out (fun k hk => hk.1) hD3 ((Fr.drews _ _ 1).trans (hf1.mono fun k _ hk => by subst hk; exact hgS')) hR4 hf2)⟩

set_option maxHeartbeats 4000000 in
set_option maxRecDepth 100000 in
theorem step_cut_l (g h : Nat) (S : Nat → Prop) (d : DS) (ar n : Int) (k0 k1 : Nat) (b : ByteArray) (w : World) (t : Two w S g h d) (hb : 50 < b.size ∧ b.size ≤ 9223372036854775807) (hn : n ≤ 9223372036854775807) (hk0 : k0 < 65536) (hk1 : k1 < 65536) :
    Calls Try.prog 9 #[.pointer (some ⟨g, 0, none⟩), .pointer (some ⟨h, 0, none⟩), .agg #[.int .i64 3, .int .i64 ar, .string b, .int .i64 n, .int .u16 k0, .int .u16 k1]] w fun e w' => e = .returned (.bool true) ∧ (∃ d', Two w' S g h d') ∧ Fr (fun k => S k ∨ k = h) w w' := by
  obtain ⟨hD, hR, hap, hS⟩ := t
  have hlt := hR.lt
  have hgl := hD.lt
  have hgS := hD.own
  have hgh : g ≠ h := fun e => hap (e ▸ hgS)
  have hh0 : (w.alloc (.cells #[.int .i64 3, .int .i64 ar, .string (b.extract 0 50), .int .i64 n, .int .u16 k0, .int .u16 k1] 30)).heap[w.heap.size]? = some (.cells #[.int .i64 3, .int .i64 ar, .string (b.extract 0 50), .int .i64 n, .int .u16 k0, .int .u16 k1] 30 (0, 0)) := by
    show (w.heap.push _)[w.heap.size]? = _
    simp
  have hz0 : (w.alloc (.cells #[.int .i64 3, .int .i64 ar, .string (b.extract 0 50), .int .i64 n, .int .u16 k0, .int .u16 k1] 30)).heap.size = w.heap.size + 1 := by
    show (w.heap.push _).size = _
    simp
  have hb2 := hb.2
  have hsz : (b.extract 0 50).size = 50 := by rw [ByteArray.size_extract]; omega
  have hB : Below w.heap.size w (w.alloc (.cells #[.int .i64 3, .int .i64 ar, .string (b.extract 0 50), .int .i64 n, .int .u16 k0, .int .u16 k1] 30)) := (Below.refl _ _).alloc (Nat.le_refl _) _
  have hh := hh0
  have hz := hz0
  obtain ⟨bs, hbs, hx, hl⟩ := str_is (b.extract 0 50)
  rw [hsz] at hl
  have hl50 : bs.length ≤ 50 := by omega
  have hD1 : Dk (w.alloc (.cells #[.int .i64 3, .int .i64 ar, .string (b.extract 0 50), .int .i64 n, .int .u16 k0, .int .u16 k1] 30)) (fun k => S k ∧ k ≠ w.heap.size) g d := (hD.to (fun k hk hs => ⟨hs, by omega⟩)).later hB
  have hR1 := hR.later hB
  have HB : Hid (Below _ _ (w.alloc (.cells #[.int .i64 3, .int .i64 ar, .string (b.extract 0 50), .int .i64 n, .int .u16 k0, .int .u16 k1] 30))) := hB
  have HS : Hid (∀ k, _) := hS
  have hS1 : ∀ k, (w.alloc (.cells #[.int .i64 3, .int .i64 ar, .string (b.extract 0 50), .int .i64 n, .int .u16 k0, .int .u16 k1] 30)).heap.size ≤ k → (fun k => S k ∧ k ≠ w.heap.size) k := fun k hk => ⟨hS k (by omega), by omega⟩
  have o1 : (w.alloc (.cells #[.int .i64 3, .int .i64 ar, .string (b.extract 0 50), .int .i64 n, .int .u16 k0, .int .u16 k1] 30)).cell? ⟨w.heap.size, 1, none⟩ = some (.int .i64 ar) := cell_of_heap hh rfl
  have o2 : (w.alloc (.cells #[.int .i64 3, .int .i64 ar, .string (b.extract 0 50), .int .i64 n, .int .u16 k0, .int .u16 k1] 30)).cell? ⟨w.heap.size, 2, none⟩ = some (.string (b.extract 0 50)) := cell_of_heap hh rfl
  have o3 : (w.alloc (.cells #[.int .i64 3, .int .i64 ar, .string (b.extract 0 50), .int .i64 n, .int .u16 k0, .int .u16 k1] 30)).cell? ⟨w.heap.size, 3, none⟩ = some (.int .i64 n) := cell_of_heap hh rfl
  have o4 : (w.alloc (.cells #[.int .i64 3, .int .i64 ar, .string (b.extract 0 50), .int .i64 n, .int .u16 k0, .int .u16 k1] 30)).cell? ⟨w.heap.size, 4, none⟩ = some (.int .u16 k0) := cell_of_heap hh rfl
  have o5 : (w.alloc (.cells #[.int .i64 3, .int .i64 ar, .string (b.extract 0 50), .int .i64 n, .int .u16 k0, .int .u16 k1] 30)).cell? ⟨w.heap.size, 5, none⟩ = some (.int .u16 k1) := cell_of_heap hh rfl
  have hne : w.heap.size ≠ g := by omega
  have hneh : w.heap.size ≠ h := by omega
  have hzl : w.heap.size < (w.alloc (.cells #[.int .i64 3, .int .i64 ar, .string (b.extract 0 50), .int .i64 n, .int .u16 k0, .int .u16 k1] 30)).heap.size := by omega
  have hzn : w.heap.size ≠ (w.alloc (.cells #[.int .i64 3, .int .i64 ar, .string (b.extract 0 50), .int .i64 n, .int .u16 k0, .int .u16 k1] 30)).heap.size := by omega
  have hgS' : (fun k => S k ∧ k ≠ w.heap.size) g := ⟨hgS, hne.symm⟩
  clear hB hD hR hS hz hz0 hh hh0
  go_enter Try.func9, Try.ntmps9
  go_wp2
  generalize (w.alloc (.cells #[.int .i64 3, .int .i64 ar, .string (b.extract 0 50), .int .i64 n, .int .u16 k0, .int .u16 k1] 30)) = W at *
  have hR2 : Rk W.drew h d := hR1
  have hD2 : Dk W.drew (fun k => S k ∧ k ≠ w.heap.size) g d := hD1.drews (k := 1)
  clear hD1 hR1
  generalize hq : d.cut ar n = q at *
  obtain ⟨r, D⟩ := q
  have c1 := dcut_any g _ d ar n W.drew hD2
  rw [hq] at c1
  clear hD2
  refine wp_region_noPanic ?_
  refine wp_region_held_drew (S := (fun w' => w'.cell? ⟨w.heap.size, 1, none⟩ = some (.int .i64 ar) ∧ w'.cell? ⟨w.heap.size, 3, none⟩ = some (.int .i64 n))) (by kernel_rfl) ?_ (fun hHeld => ?_)
  · exact ⟨o1, o3⟩
  refine held_take (i := 0) (d := 47) (v := ?_) rfl rfl (by kernel_rfl) (by kernel_rfl) (by kernel_rfl) (fun _ _ _ h => h) (Or.inl ⟨by rfl, ?_⟩) hHeld ?_
  rotate_left
  · (intro w hSw; (try dsimp only at hSw); go_simp; all_goals (with_reducible rfl))
  try simp only [Act.put, List.setIfInBounds_toArray, List.set_cons_zero, List.set_cons_succ]
  refine held_take (i := 1) (d := 48) (v := ?_) rfl rfl (by kernel_rfl) (by kernel_rfl) (by kernel_rfl) (fun _ _ _ h => h) (Or.inl ⟨by rfl, ?_⟩) hHeld ?_
  rotate_left
  · (intro w hSw; (try dsimp only at hSw); go_simp; all_goals (with_reducible rfl))
  try simp only [Act.put, List.setIfInBounds_toArray, List.set_cons_zero, List.set_cons_succ]
  refine held_take (i := 2) (d := 49) (v := ?_) rfl rfl (by kernel_rfl) (by kernel_rfl) (by kernel_rfl) (fun _ _ _ h => h) (Or.inl ⟨by rfl, ?_⟩) hHeld ?_
  rotate_left
  · (intro w hSw; (try dsimp only at hSw); go_simp; all_goals (with_reducible rfl))
  try simp only [Act.put, List.setIfInBounds_toArray, List.set_cons_zero, List.set_cons_succ]
  refine held_take (i := 3) (d := 50) (v := ?_) rfl rfl (by kernel_rfl) (by kernel_rfl) (by kernel_rfl) (fun _ _ _ h => h) (Or.inl ⟨by rfl, ?_⟩) hHeld ?_
  rotate_left
  · (intro w hSw; (try dsimp only at hSw); go_simp; all_goals (with_reducible rfl))
  try simp only [Act.put, List.setIfInBounds_toArray, List.set_cons_zero, List.set_cons_succ]
  refine held_take (i := 4) (d := 51) (v := ?_) rfl rfl (by kernel_rfl) (by kernel_rfl) (by kernel_rfl) (fun _ _ _ h => h) (Or.inl ⟨by rfl, ?_⟩) hHeld ?_
  rotate_left
  · (intro w hSw; (try dsimp only at hSw); go_simp; all_goals (with_reducible rfl))
  try simp only [Act.put, List.setIfInBounds_toArray, List.set_cons_zero, List.set_cons_succ]
  refine held_take (i := 6) (d := 53) (v := ?_) rfl rfl (by kernel_rfl) (by kernel_rfl) (by kernel_rfl) (fun _ _ _ h => h) (Or.inl ⟨by rfl, ?_⟩) hHeld ?_
  rotate_left
  · (intro w hSw; (try dsimp only at hSw); go_simp; all_goals (with_reducible rfl))
  try simp only [Act.put, List.setIfInBounds_toArray, List.set_cons_zero, List.set_cons_succ]
  refine held_take (i := 7) (d := 54) (v := ?_) rfl rfl (by kernel_rfl) (by kernel_rfl) (by kernel_rfl) (fun _ _ _ h => h) (Or.inl ⟨by rfl, ?_⟩) hHeld ?_
  rotate_left
  · (intro w hSw; (try dsimp only at hSw); go_simp; all_goals (with_reducible rfl))
  try simp only [Act.put, List.setIfInBounds_toArray, List.set_cons_zero, List.set_cons_succ]
  refine held_take (i := 8) (d := 55) (v := ?_) rfl rfl (by kernel_rfl) (by kernel_rfl) (by kernel_rfl) (fun _ _ _ h => h) (Or.inl ⟨by rfl, ?_⟩) hHeld ?_
  rotate_left
  · (intro w hSw; (try dsimp only at hSw); go_simp; all_goals (with_reducible rfl))
  try simp only [Act.put, List.setIfInBounds_toArray, List.set_cons_zero, List.set_cons_succ]
  refine held_take (i := 9) (d := 56) (v := ?_) rfl rfl (by kernel_rfl) (by kernel_rfl) (by kernel_rfl) (fun _ _ _ h => h) (Or.inl ⟨by rfl, ?_⟩) hHeld ?_
  rotate_left
  · (intro w hSw; (try dsimp only at hSw); go_simp; all_goals (with_reducible rfl))
  try simp only [Act.put, List.setIfInBounds_toArray, List.set_cons_zero, List.set_cons_succ]
  refine held_take (i := 10) (d := 57) (v := ?_) rfl rfl (by kernel_rfl) (by kernel_rfl) (by kernel_rfl) (fun _ _ _ h => h) (Or.inl ⟨by rfl, ?_⟩) hHeld ?_
  rotate_left
  · (intro w hSw; (try dsimp only at hSw); go_simp; all_goals (with_reducible rfl))
  try simp only [Act.put, List.setIfInBounds_toArray, List.set_cons_zero, List.set_cons_succ]
  refine wpAnyH_ready (rs := [5]) (by kernel_rfl) (by simp) ?_
  refine AllReadyH.cons rfl (fun K hK => ?_) AllReadyH.nil
  go_simp
  refine c1.mono ?_
  rintro e w1 ⟨rfl, hD3, hf1⟩
  have p1 : w1.cell? ⟨w.heap.size, 1, none⟩ = some (.int .i64 ar) := hf1.cell o1 hne
  have p3 : w1.cell? ⟨w.heap.size, 3, none⟩ = some (.int .i64 n) := hf1.cell o3 hne
  have hR3 := hR2.fr hf1 hgh.symm
  go_wp2_with fail
  refine hK.out _ _ ?_ (fun hHeld => ?_)
  · exact ⟨p1, p3⟩
  clear hK K
  try simp only [Act.put, List.setIfInBounds_toArray, List.set_cons_zero, List.set_cons_succ]
  refine wpAnyH_ready (rs := [11]) (by kernel_rfl) (by simp) ?_
  refine AllReadyH.cons rfl (fun K hK => ?_) AllReadyH.nil
  go_simp
  refine (rcut_any h d ar n w1 hR3).mono ?_
  rintro e w2 ⟨rfl, hR4, hf2⟩
  rw [hq] at hR4 ⊢
  have r1 : w2.cell? ⟨w.heap.size, 1, none⟩ = some (.int .i64 ar) := hf2.cell p1 hneh
  have r3 : w2.cell? ⟨w.heap.size, 3, none⟩ = some (.int .i64 n) := hf2.cell p3 hneh
  go_wp2_with fail
  refine hK.out _ _ ?_ (fun hHeld => ?_)
  · exact ⟨r1, r3⟩
  clear hK K
  try simp only [Act.put, List.setIfInBounds_toArray, List.set_cons_zero, List.set_cons_succ]
  refine held_take (i := 12) (d := 59) (v := ?_) rfl rfl (by kernel_rfl) (by kernel_rfl) (by kernel_rfl) (fun _ _ _ h => h) (Or.inl ⟨by rfl, ?_⟩) hHeld ?_
  rotate_left
  · (intro w hSw; (try dsimp only at hSw); go_simp; all_goals (with_reducible rfl))
  try simp only [Act.put, List.setIfInBounds_toArray, List.set_cons_zero, List.set_cons_succ]
  refine held_take (i := 13) (d := 6) (v := ?_) rfl rfl (by kernel_rfl) (by kernel_rfl) (by kernel_rfl) (fun _ _ _ h => h) (Or.inl ⟨by rfl, ?_⟩) hHeld ?_
  rotate_left
  · (intro w hSw; (try dsimp only at hSw); go_simp; all_goals (with_reducible rfl))
  try simp only [Act.put, List.setIfInBounds_toArray, List.set_cons_zero, List.set_cons_succ]
  refine wpAnyH_done (by kernel_rfl) ?_ _
  refine NoPanic.normal ?_
  go_wp2
  go_ret
  exact ⟨rfl, two_told (Two.fin HB.out hap HS.out (fun k hk => hk.1) hD3 ((Fr.drews _ _ 1).trans (hf1.mono fun k _ hk => by subst hk; exact hgS')) hR4 hf2)⟩

set_option maxHeartbeats 4000000 in
set_option maxRecDepth 100000 in
theorem step_arm_l (g h : Nat) (S : Nat → Prop) (d : DS) (ar n : Int) (k0 k1 : Nat) (b : ByteArray) (w : World) (t : Two w S g h d) (hb : 50 < b.size ∧ b.size ≤ 9223372036854775807) (hn : n ≤ 9223372036854775807) (hk0 : k0 < 65536) (hk1 : k1 < 65536) :
    Calls Try.prog 9 #[.pointer (some ⟨g, 0, none⟩), .pointer (some ⟨h, 0, none⟩), .agg #[.int .i64 4, .int .i64 ar, .string b, .int .i64 n, .int .u16 k0, .int .u16 k1]] w fun e w' => e = .returned (.bool true) ∧ (∃ d', Two w' S g h d') ∧ Fr (fun k => S k ∨ k = h) w w' := by
  obtain ⟨hD, hR, hap, hS⟩ := t
  have hlt := hR.lt
  have hgl := hD.lt
  have hgS := hD.own
  have hgh : g ≠ h := fun e => hap (e ▸ hgS)
  have hh0 : (w.alloc (.cells #[.int .i64 4, .int .i64 ar, .string (b.extract 0 50), .int .i64 n, .int .u16 k0, .int .u16 k1] 30)).heap[w.heap.size]? = some (.cells #[.int .i64 4, .int .i64 ar, .string (b.extract 0 50), .int .i64 n, .int .u16 k0, .int .u16 k1] 30 (0, 0)) := by
    show (w.heap.push _)[w.heap.size]? = _
    simp
  have hz0 : (w.alloc (.cells #[.int .i64 4, .int .i64 ar, .string (b.extract 0 50), .int .i64 n, .int .u16 k0, .int .u16 k1] 30)).heap.size = w.heap.size + 1 := by
    show (w.heap.push _).size = _
    simp
  have hb2 := hb.2
  have hsz : (b.extract 0 50).size = 50 := by rw [ByteArray.size_extract]; omega
  have hB : Below w.heap.size w (w.alloc (.cells #[.int .i64 4, .int .i64 ar, .string (b.extract 0 50), .int .i64 n, .int .u16 k0, .int .u16 k1] 30)) := (Below.refl _ _).alloc (Nat.le_refl _) _
  have hh := hh0
  have hz := hz0
  obtain ⟨bs, hbs, hx, hl⟩ := str_is (b.extract 0 50)
  rw [hsz] at hl
  have hl50 : bs.length ≤ 50 := by omega
  have hD1 : Dk (w.alloc (.cells #[.int .i64 4, .int .i64 ar, .string (b.extract 0 50), .int .i64 n, .int .u16 k0, .int .u16 k1] 30)) (fun k => S k ∧ k ≠ w.heap.size) g d := (hD.to (fun k hk hs => ⟨hs, by omega⟩)).later hB
  have hR1 := hR.later hB
  have HB : Hid (Below _ _ (w.alloc (.cells #[.int .i64 4, .int .i64 ar, .string (b.extract 0 50), .int .i64 n, .int .u16 k0, .int .u16 k1] 30))) := hB
  have HS : Hid (∀ k, _) := hS
  have hS1 : ∀ k, (w.alloc (.cells #[.int .i64 4, .int .i64 ar, .string (b.extract 0 50), .int .i64 n, .int .u16 k0, .int .u16 k1] 30)).heap.size ≤ k → (fun k => S k ∧ k ≠ w.heap.size) k := fun k hk => ⟨hS k (by omega), by omega⟩
  have o1 : (w.alloc (.cells #[.int .i64 4, .int .i64 ar, .string (b.extract 0 50), .int .i64 n, .int .u16 k0, .int .u16 k1] 30)).cell? ⟨w.heap.size, 1, none⟩ = some (.int .i64 ar) := cell_of_heap hh rfl
  have o2 : (w.alloc (.cells #[.int .i64 4, .int .i64 ar, .string (b.extract 0 50), .int .i64 n, .int .u16 k0, .int .u16 k1] 30)).cell? ⟨w.heap.size, 2, none⟩ = some (.string (b.extract 0 50)) := cell_of_heap hh rfl
  have o3 : (w.alloc (.cells #[.int .i64 4, .int .i64 ar, .string (b.extract 0 50), .int .i64 n, .int .u16 k0, .int .u16 k1] 30)).cell? ⟨w.heap.size, 3, none⟩ = some (.int .i64 n) := cell_of_heap hh rfl
  have o4 : (w.alloc (.cells #[.int .i64 4, .int .i64 ar, .string (b.extract 0 50), .int .i64 n, .int .u16 k0, .int .u16 k1] 30)).cell? ⟨w.heap.size, 4, none⟩ = some (.int .u16 k0) := cell_of_heap hh rfl
  have o5 : (w.alloc (.cells #[.int .i64 4, .int .i64 ar, .string (b.extract 0 50), .int .i64 n, .int .u16 k0, .int .u16 k1] 30)).cell? ⟨w.heap.size, 5, none⟩ = some (.int .u16 k1) := cell_of_heap hh rfl
  have hne : w.heap.size ≠ g := by omega
  have hneh : w.heap.size ≠ h := by omega
  have hzl : w.heap.size < (w.alloc (.cells #[.int .i64 4, .int .i64 ar, .string (b.extract 0 50), .int .i64 n, .int .u16 k0, .int .u16 k1] 30)).heap.size := by omega
  have hzn : w.heap.size ≠ (w.alloc (.cells #[.int .i64 4, .int .i64 ar, .string (b.extract 0 50), .int .i64 n, .int .u16 k0, .int .u16 k1] 30)).heap.size := by omega
  have hgS' : (fun k => S k ∧ k ≠ w.heap.size) g := ⟨hgS, hne.symm⟩
  clear hB hD hR hS hz hz0 hh hh0
  go_enter Try.func9, Try.ntmps9
  go_wp2_with fail
  generalize (w.alloc (.cells #[.int .i64 4, .int .i64 ar, .string (b.extract 0 50), .int .i64 n, .int .u16 k0, .int .u16 k1] 30)) = W at *
  refine (darm_any g _ d n W hD1 hn).mono ?_
  rintro e w1 ⟨rfl, hD3, hf1⟩
  have p3 : w1.cell? ⟨w.heap.size, 3, none⟩ = some (.int .i64 n) := hf1.cell o3 hne
  have p4 : w1.cell? ⟨w.heap.size, 4, none⟩ = some (.int .u16 k0) := hf1.cell o4 hne
  have p5 : w1.cell? ⟨w.heap.size, 5, none⟩ = some (.int .u16 k1) := hf1.cell o5 hne
  have hR3 := hR1.fr hf1 hgh.symm
  clear o1 o2 o3 o4 o5 hD1 hR1
  go_wp2_with fail
  refine (rarm_any h d n w1 hR3 hn).mono ?_
  rintro e w2 ⟨rfl, hR4, hf2⟩
  go_wp2
  go_ret
  exact ⟨rfl, two_told (Two.fin HB.out hap HS.out (fun k hk => hk.1) hD3 (hf1.mono fun k _ hk => by subst hk; exact hgS') hR4 hf2)⟩

set_option maxHeartbeats 4000000 in
set_option maxRecDepth 100000 in
theorem step_crash_l (g h : Nat) (S : Nat → Prop) (d : DS) (ar n : Int) (k0 k1 : Nat) (b : ByteArray) (w : World) (t : Two w S g h d) (hb : 50 < b.size ∧ b.size ≤ 9223372036854775807) (hn : n ≤ 9223372036854775807) (hk0 : k0 < 65536) (hk1 : k1 < 65536) :
    Calls Try.prog 9 #[.pointer (some ⟨g, 0, none⟩), .pointer (some ⟨h, 0, none⟩), .agg #[.int .i64 5, .int .i64 ar, .string b, .int .i64 n, .int .u16 k0, .int .u16 k1]] w fun e w' => e = .returned (.bool true) ∧ (∃ d', Two w' S g h d') ∧ Fr (fun k => S k ∨ k = h) w w' := by
  obtain ⟨hD, hR, hap, hS⟩ := t
  have hlt := hR.lt
  have hgl := hD.lt
  have hgS := hD.own
  have hgh : g ≠ h := fun e => hap (e ▸ hgS)
  have hh0 : (w.alloc (.cells #[.int .i64 5, .int .i64 ar, .string (b.extract 0 50), .int .i64 n, .int .u16 k0, .int .u16 k1] 30)).heap[w.heap.size]? = some (.cells #[.int .i64 5, .int .i64 ar, .string (b.extract 0 50), .int .i64 n, .int .u16 k0, .int .u16 k1] 30 (0, 0)) := by
    show (w.heap.push _)[w.heap.size]? = _
    simp
  have hz0 : (w.alloc (.cells #[.int .i64 5, .int .i64 ar, .string (b.extract 0 50), .int .i64 n, .int .u16 k0, .int .u16 k1] 30)).heap.size = w.heap.size + 1 := by
    show (w.heap.push _).size = _
    simp
  have hb2 := hb.2
  have hsz : (b.extract 0 50).size = 50 := by rw [ByteArray.size_extract]; omega
  have hB : Below w.heap.size w (w.alloc (.cells #[.int .i64 5, .int .i64 ar, .string (b.extract 0 50), .int .i64 n, .int .u16 k0, .int .u16 k1] 30)) := (Below.refl _ _).alloc (Nat.le_refl _) _
  have hh := hh0
  have hz := hz0
  obtain ⟨bs, hbs, hx, hl⟩ := str_is (b.extract 0 50)
  rw [hsz] at hl
  have hl50 : bs.length ≤ 50 := by omega
  have hD1 : Dk (w.alloc (.cells #[.int .i64 5, .int .i64 ar, .string (b.extract 0 50), .int .i64 n, .int .u16 k0, .int .u16 k1] 30)) (fun k => S k ∧ k ≠ w.heap.size) g d := (hD.to (fun k hk hs => ⟨hs, by omega⟩)).later hB
  have hR1 := hR.later hB
  have HB : Hid (Below _ _ (w.alloc (.cells #[.int .i64 5, .int .i64 ar, .string (b.extract 0 50), .int .i64 n, .int .u16 k0, .int .u16 k1] 30))) := hB
  have HS : Hid (∀ k, _) := hS
  have hS1 : ∀ k, (w.alloc (.cells #[.int .i64 5, .int .i64 ar, .string (b.extract 0 50), .int .i64 n, .int .u16 k0, .int .u16 k1] 30)).heap.size ≤ k → (fun k => S k ∧ k ≠ w.heap.size) k := fun k hk => ⟨hS k (by omega), by omega⟩
  have o1 : (w.alloc (.cells #[.int .i64 5, .int .i64 ar, .string (b.extract 0 50), .int .i64 n, .int .u16 k0, .int .u16 k1] 30)).cell? ⟨w.heap.size, 1, none⟩ = some (.int .i64 ar) := cell_of_heap hh rfl
  have o2 : (w.alloc (.cells #[.int .i64 5, .int .i64 ar, .string (b.extract 0 50), .int .i64 n, .int .u16 k0, .int .u16 k1] 30)).cell? ⟨w.heap.size, 2, none⟩ = some (.string (b.extract 0 50)) := cell_of_heap hh rfl
  have o3 : (w.alloc (.cells #[.int .i64 5, .int .i64 ar, .string (b.extract 0 50), .int .i64 n, .int .u16 k0, .int .u16 k1] 30)).cell? ⟨w.heap.size, 3, none⟩ = some (.int .i64 n) := cell_of_heap hh rfl
  have o4 : (w.alloc (.cells #[.int .i64 5, .int .i64 ar, .string (b.extract 0 50), .int .i64 n, .int .u16 k0, .int .u16 k1] 30)).cell? ⟨w.heap.size, 4, none⟩ = some (.int .u16 k0) := cell_of_heap hh rfl
  have o5 : (w.alloc (.cells #[.int .i64 5, .int .i64 ar, .string (b.extract 0 50), .int .i64 n, .int .u16 k0, .int .u16 k1] 30)).cell? ⟨w.heap.size, 5, none⟩ = some (.int .u16 k1) := cell_of_heap hh rfl
  have hne : w.heap.size ≠ g := by omega
  have hneh : w.heap.size ≠ h := by omega
  have hzl : w.heap.size < (w.alloc (.cells #[.int .i64 5, .int .i64 ar, .string (b.extract 0 50), .int .i64 n, .int .u16 k0, .int .u16 k1] 30)).heap.size := by omega
  have hzn : w.heap.size ≠ (w.alloc (.cells #[.int .i64 5, .int .i64 ar, .string (b.extract 0 50), .int .i64 n, .int .u16 k0, .int .u16 k1] 30)).heap.size := by omega
  have hgS' : (fun k => S k ∧ k ≠ w.heap.size) g := ⟨hgS, hne.symm⟩
  clear hB hD hR hS hz hz0 hh hh0
  go_enter Try.func9, Try.ntmps9
  go_wp2_with fail
  generalize (w.alloc (.cells #[.int .i64 5, .int .i64 ar, .string (b.extract 0 50), .int .i64 n, .int .u16 k0, .int .u16 k1] 30)) = W at *
  refine (dcrash_any g _ d k0 k1 W hD1 hk0 hk1).mono ?_
  rintro e w1 ⟨rfl, hD3, hf1⟩
  have p3 : w1.cell? ⟨w.heap.size, 3, none⟩ = some (.int .i64 n) := hf1.cell o3 hne
  have p4 : w1.cell? ⟨w.heap.size, 4, none⟩ = some (.int .u16 k0) := hf1.cell o4 hne
  have p5 : w1.cell? ⟨w.heap.size, 5, none⟩ = some (.int .u16 k1) := hf1.cell o5 hne
  have hR3 := hR1.fr hf1 hgh.symm
  clear o1 o2 o3 o4 o5 hD1 hR1
  go_wp2_with fail
  refine (rcrash_any h d k0 k1 w1 hR3 hk0 hk1).mono ?_
  rintro e w2 ⟨rfl, hR4, hf2⟩
  go_wp2
  go_ret
  exact ⟨rfl, two_told (Two.fin HB.out hap HS.out (fun k hk => hk.1) hD3 (hf1.mono fun k _ hk => by subst hk; exact hgS') hR4 hf2)⟩

set_option maxHeartbeats 4000000 in
set_option maxRecDepth 100000 in
theorem step_other_l (g h : Nat) (S : Nat → Prop) (d : DS) (kind ar n : Int) (k0 k1 : Nat) (b : ByteArray) (w : World) (t : Two w S g h d) (hb : 50 < b.size ∧ b.size ≤ 9223372036854775807) (hn : n ≤ 9223372036854775807) (hk0 : k0 < 65536) (hk1 : k1 < 65536) (o0 : (kind == 0) = false) (o1 : (kind == 1) = false) (o2 : (kind == 2) = false) (o3 : (kind == 3) = false) (o4 : (kind == 4) = false) (o5 : (kind == 5) = false) :
    Calls Try.prog 9 #[.pointer (some ⟨g, 0, none⟩), .pointer (some ⟨h, 0, none⟩), .agg #[.int .i64 kind, .int .i64 ar, .string b, .int .i64 n, .int .u16 k0, .int .u16 k1]] w fun e w' => e = .returned (.bool true) ∧ (∃ d', Two w' S g h d') ∧ Fr (fun k => S k ∨ k = h) w w' := by
  obtain ⟨hD, hR, hap, hS⟩ := t
  have hlt := hR.lt
  have hgl := hD.lt
  have hgS := hD.own
  have hgh : g ≠ h := fun e => hap (e ▸ hgS)
  have hh0 : (w.alloc (.cells #[.int .i64 kind, .int .i64 ar, .string (b.extract 0 50), .int .i64 n, .int .u16 k0, .int .u16 k1] 30)).heap[w.heap.size]? = some (.cells #[.int .i64 kind, .int .i64 ar, .string (b.extract 0 50), .int .i64 n, .int .u16 k0, .int .u16 k1] 30 (0, 0)) := by
    show (w.heap.push _)[w.heap.size]? = _
    simp
  have hz0 : (w.alloc (.cells #[.int .i64 kind, .int .i64 ar, .string (b.extract 0 50), .int .i64 n, .int .u16 k0, .int .u16 k1] 30)).heap.size = w.heap.size + 1 := by
    show (w.heap.push _).size = _
    simp
  have hb2 := hb.2
  have hsz : (b.extract 0 50).size = 50 := by rw [ByteArray.size_extract]; omega
  have hB : Below w.heap.size w (w.alloc (.cells #[.int .i64 kind, .int .i64 ar, .string (b.extract 0 50), .int .i64 n, .int .u16 k0, .int .u16 k1] 30)) := (Below.refl _ _).alloc (Nat.le_refl _) _
  have hh := hh0
  have hz := hz0
  obtain ⟨bs, hbs, hx, hl⟩ := str_is (b.extract 0 50)
  rw [hsz] at hl
  have hl50 : bs.length ≤ 50 := by omega
  have hD1 : Dk (w.alloc (.cells #[.int .i64 kind, .int .i64 ar, .string (b.extract 0 50), .int .i64 n, .int .u16 k0, .int .u16 k1] 30)) (fun k => S k ∧ k ≠ w.heap.size) g d := (hD.to (fun k hk hs => ⟨hs, by omega⟩)).later hB
  have hR1 := hR.later hB
  have HB : Hid (Below _ _ (w.alloc (.cells #[.int .i64 kind, .int .i64 ar, .string (b.extract 0 50), .int .i64 n, .int .u16 k0, .int .u16 k1] 30))) := hB
  have HS : Hid (∀ k, _) := hS
  have hS1 : ∀ k, (w.alloc (.cells #[.int .i64 kind, .int .i64 ar, .string (b.extract 0 50), .int .i64 n, .int .u16 k0, .int .u16 k1] 30)).heap.size ≤ k → (fun k => S k ∧ k ≠ w.heap.size) k := fun k hk => ⟨hS k (by omega), by omega⟩
  have p1 : (w.alloc (.cells #[.int .i64 kind, .int .i64 ar, .string (b.extract 0 50), .int .i64 n, .int .u16 k0, .int .u16 k1] 30)).cell? ⟨w.heap.size, 1, none⟩ = some (.int .i64 ar) := cell_of_heap hh rfl
  have p2 : (w.alloc (.cells #[.int .i64 kind, .int .i64 ar, .string (b.extract 0 50), .int .i64 n, .int .u16 k0, .int .u16 k1] 30)).cell? ⟨w.heap.size, 2, none⟩ = some (.string (b.extract 0 50)) := cell_of_heap hh rfl
  have p3 : (w.alloc (.cells #[.int .i64 kind, .int .i64 ar, .string (b.extract 0 50), .int .i64 n, .int .u16 k0, .int .u16 k1] 30)).cell? ⟨w.heap.size, 3, none⟩ = some (.int .i64 n) := cell_of_heap hh rfl
  have p4 : (w.alloc (.cells #[.int .i64 kind, .int .i64 ar, .string (b.extract 0 50), .int .i64 n, .int .u16 k0, .int .u16 k1] 30)).cell? ⟨w.heap.size, 4, none⟩ = some (.int .u16 k0) := cell_of_heap hh rfl
  have p5 : (w.alloc (.cells #[.int .i64 kind, .int .i64 ar, .string (b.extract 0 50), .int .i64 n, .int .u16 k0, .int .u16 k1] 30)).cell? ⟨w.heap.size, 5, none⟩ = some (.int .u16 k1) := cell_of_heap hh rfl
  have hne : w.heap.size ≠ g := by omega
  have hneh : w.heap.size ≠ h := by omega
  have hzl : w.heap.size < (w.alloc (.cells #[.int .i64 kind, .int .i64 ar, .string (b.extract 0 50), .int .i64 n, .int .u16 k0, .int .u16 k1] 30)).heap.size := by omega
  have hzn : w.heap.size ≠ (w.alloc (.cells #[.int .i64 kind, .int .i64 ar, .string (b.extract 0 50), .int .i64 n, .int .u16 k0, .int .u16 k1] 30)).heap.size := by omega
  have hgS' : (fun k => S k ∧ k ≠ w.heap.size) g := ⟨hgS, hne.symm⟩
  clear hB hD hR hS hz hz0 hh hh0
  go_enter Try.func9, Try.ntmps9
  go_wp2
  go_ret
  exact ⟨rfl, two_told (Two.fin HB.out hap HS.out (fun k hk => hk.1) hD1 (Fr.refl _ _) hR1 (Fr.refl _ _))⟩

end Go.Proofs.Ytpejijiolcfglaa
