/- What the law's own disk does: contracts of what writes. -/
import Derived.Test.YtpejijiolcfglaaDkG
namespace Go.Proofs.Ytpejijiolcfglaa
open Go.RowKit

theorem str_take (xs : List Nat) (n : Nat) : (str xs).extract 0 n = str (xs.take n) := by
  unfold str
  apply ByteArray.ext
  simp [ByteArray.data_extract]

theorem Rk.set {w : World} {g : Nat} {d d' : DS} (j : Nat) (v : Value) (_h : Rk w g d) (hh : (w.setCell ⟨g, j, none⟩ v).heap[g]? = some (.cells #[.int .i64 (d'.room : Nat), .string (str d'.b0), .string (str d'.b1), .int .i64 (d'.s0 : Nat), .int .i64 (d'.s1 : Nat), .bool d'.lost, .int .i64 (match d'.left with | none => (-1 : Int) | some n => (n : Int))] 44 (0, 0))) (hok : d'.ok) : Rk (w.setCell ⟨g, j, none⟩ v) g d' ∧ Fr (· = g) w (w.setCell ⟨g, j, none⟩ v) := ⟨⟨hh, hok⟩, Fr.one _ _ _ _⟩

theorem rread_any (g : Nat) (d : DS) (k : Int) (w : World) (h : Rk w g d) :
    Calls Try.prog 12 #[.pointer (some ⟨g, 0, none⟩), .int .i64 k] w fun e w' => e = .returned (.tuple #[.string (str (d.read k).1), .int .i64 ((d.read k).2 : Nat)]) ∧ w' = w := by
  obtain ⟨-, e1, e2, -, -, e5, -, -⟩ := h.cells
  clear h
  unfold DS.read
  by_cases h0 : k = 0
  · subst h0
    cases hl : d.lost with
    | true =>
      rw [hl] at e5
      go_enter Try.func12, Try.ntmps12
      go_wp2
      go_ret2
      exact ⟨rfl, rfl⟩
    | false =>
      rw [hl] at e5
      go_enter Try.func12, Try.ntmps12
      go_wp2
      go_ret2
      exact ⟨rfl, rfl⟩
  · by_cases h1 : k = 1
    · subst h1
      cases hl : d.lost with
      | true =>
        rw [hl] at e5
        go_enter Try.func12, Try.ntmps12
        go_wp2
        go_ret2
        exact ⟨rfl, rfl⟩
      | false =>
        rw [hl] at e5
        go_enter Try.func12, Try.ntmps12
        go_wp2
        go_ret2
        exact ⟨rfl, rfl⟩
    · rw [if_pos (by omega)]
      have n0 : (k != 0) = true := by simpa using h0
      have n1 : (k != 1) = true := by simpa using h1
      go_enter Try.func12, Try.ntmps12
      go_wp2
      go_ret2
      exact ⟨rfl, rfl⟩

theorem rarm_any (g : Nat) (d : DS) (n : Int) (w : World) (h : Rk w g d) (hn : n ≤ 9223372036854775807) :
    Calls Try.prog 25 #[.pointer (some ⟨g, 0, none⟩), .int .i64 n] w fun e w' => e = .returned (.tuple #[]) ∧ Rk w' g (d.arm n) ∧ Fr (· = g) w w' := by
  have hok := DS.arm_ok h.2 n hn
  obtain ⟨-, -, -, -, -, -, e6, f⟩ := h.cells
  have f6 := f 6
  have HH : Hid (Rk w g d) := h
  clear h f
  by_cases h0 : n < 0
  · go_enter Try.func25, Try.ntmps25
    go_wp2
    go_end0
    have hz : n.toNat = 0 := by omega
    refine ⟨rfl, ⟨?_, hok⟩, (Fr.one _ _ _ _).trans (Fr.one _ _ _ _)⟩
    have q1 := heap_setCell_same w g 6 _ 44 (.int .i64 n) HH.out.1
    have q2 := heap_setCell_same _ g 6 _ 44 (.int .i64 0) q1
    rw [q2]
    simp [DS.arm, hz]
  · go_enter Try.func25, Try.ntmps25
    go_wp2
    go_end0
    have hz : ((n.toNat : Nat) : Int) = n := by omega
    refine ⟨rfl, ⟨?_, hok⟩, Fr.one _ _ _ _⟩
    have q1 := heap_setCell_same w g 6 _ 44 (.int .i64 n) HH.out.1
    rw [q1]
    simp [DS.arm, hz]

set_option maxRecDepth 100000 in
theorem rappend_any (g : Nat) (d : DS) (k : Int) (ns : List Nat) (w : World) (h : Rk w g d) (hx : ∀ x ∈ ns, x < 256) (hl : ns.length ≤ 1000000000) :
    Calls Try.prog 22 #[.pointer (some ⟨g, 0, none⟩), .int .i64 k, .string (str ns)] w fun e w' => e = .returned (.int .i64 ((d.append k ns).1 : Nat)) ∧ Rk w' g (d.append k ns).2 ∧ Fr (· = g) w w' := by
  have hok := DS.append_ok h.2 k ns hx
  have hroom := rroom_any g d w h
  have hsz := str_size ns
  unfold DS.append at hok ⊢
  by_cases hk : k = 0 ∨ k = 1
  · rw [if_neg (fun h => h hk)] at hok ⊢
    by_cases hfull : d.free < ns.length
    · rw [if_pos hfull]
      clear hok
      have key : ∀ k, k = 0 ∨ k = 1 → Calls Try.prog 22 #[.pointer (some ⟨g, 0, none⟩), .int .i64 k, .string (str ns)] w fun e w' => e = .returned (.int .i64 ((9 : Nat) : Int)) ∧ Rk w' g d ∧ Fr (· = g) w w' := by
        intro k hk
        have hf : (d.free : Int) < (ns.length : Int) := by omega
        rcases hk with rfl | rfl
        · go_enter Try.func22, Try.ntmps22
          go_wp2_with fail
          refine hroom.mono ?_
          rintro e w' ⟨rfl, kk, rfl⟩
          go_wp2
          go_ret
          exact ⟨rfl, h, Fr.drews _ _ _⟩
        · go_enter Try.func22, Try.ntmps22
          go_wp2_with fail
          refine hroom.mono ?_
          rintro e w' ⟨rfl, kk, rfl⟩
          go_wp2
          go_ret
          exact ⟨rfl, h, Fr.drews _ _ _⟩
      exact key k hk
    · rw [if_neg hfull] at hok ⊢
      have hf : (ns.length : Int) ≤ (d.free : Int) := by omega
      have hw := DS.wcode_write d
      have hwl := DS.wcode_lost d
      cases hlost : d.lost with
      | true =>
        have hwr : d.write = (12, d) := by unfold DS.write; rw [if_pos hlost]
        have hc : d.wcode = 1 := hwl.2 hlost
        rw [if_pos rfl]
        have hW : ∀ W, Rk W g d → _ := fun W hD => rwrite_any g d W hD
        rw [hc, hwr] at hW
        clear hok hfull hw hwl hc hwr
        have key : ∀ k, k = 0 ∨ k = 1 → Calls Try.prog 22 #[.pointer (some ⟨g, 0, none⟩), .int .i64 k, .string (str ns)] w fun e w' => e = .returned (.int .i64 ((12 : Nat) : Int)) ∧ Rk w' g d ∧ Fr (· = g) w w' := by
          intro k hk
          rcases hk with rfl | rfl
          · go_enter Try.func22, Try.ntmps22
            go_wp2_with fail
            refine hroom.mono ?_
            rintro e w' ⟨rfl, kk, rfl⟩
            have hD : Rk (w.drewN kk) g d := h
            have hF : Fr (· = g) w (w.drewN kk) := Fr.drews _ _ _
            generalize w.drewN kk = W at *
            go_wp2_with fail
            refine (hW W hD).mono ?_
            rintro e w1 ⟨rfl, hD1, hf1⟩
            go_wp2
            go_ret
            exact ⟨rfl, hD1, hF.trans hf1⟩
          · go_enter Try.func22, Try.ntmps22
            go_wp2_with fail
            refine hroom.mono ?_
            rintro e w' ⟨rfl, kk, rfl⟩
            have hD : Rk (w.drewN kk) g d := h
            have hF : Fr (· = g) w (w.drewN kk) := Fr.drews _ _ _
            generalize w.drewN kk = W at *
            go_wp2_with fail
            refine (hW W hD).mono ?_
            rintro e w1 ⟨rfl, hD1, hf1⟩
            go_wp2
            go_ret
            exact ⟨rfl, hD1, hF.trans hf1⟩
        exact key k hk
      | false =>
        rw [if_neg (by simp [hlost])] at hok
        rw [if_neg (by simp)]
        have hne1 : d.wcode ≠ 1 := fun h => by rw [hwl.1 h] at hlost; cases hlost
        have hws := DS.write_same d
        have hlen0 := h.2.sum
        have hr0 := h.2.room
        have hgs := DS.get_write d k
        rw [← hgs.1, ← hgs.2.1] at hok ⊢
        rw [← hws.2.1, ← hws.2.2.1, ← hws.1] at hlen0
        rw [← hws.1] at hr0
        have hW : ∀ W, Rk W g d → _ := fun W hD => rwrite_any g d W hD
        clear hws hgs hwl
        generalize d.write.2 = D at *
        generalize d.write.1 = R at *
        generalize d.wcode = C at *
        have hRC : (C = 0 ∧ R = 0) ∨ (C = 2 ∧ R = 12) := by omega
        clear hw hne1
        have a0 : ∀ w, _ := fun w => add_str D.b0 ns w (by omega)
        have a1 : ∀ w, _ := fun w => add_str D.b1 ns w (by omega)
        rcases hk with rfl | rfl <;> rcases hRC with ⟨rfl, rfl⟩ | ⟨rfl, rfl⟩
        all_goals
          go_enter Try.func22, Try.ntmps22
          go_wp2_with fail
          refine hroom.mono ?_
          rintro e w' ⟨rfl, kk, rfl⟩
          have hD : Rk (w.drewN kk) g d := h
          have hF : Fr (· = g) w (w.drewN kk) := Fr.drews _ _ _
          generalize w.drewN kk = W at *
          go_wp2_with fail
          refine (hW W hD).mono ?_
          rintro e w1 ⟨rfl, hD1, hf1⟩
          obtain ⟨-, e1, e2, -, -, -, -, f⟩ := hD1.cells
          have f1 := f 1
          have f2 := f 2
          clear f hW hD hroom
          have HD : Hid (Rk w1 g D) := hD1
          clear hD1
          go_wp2
          go_region
          go_wp2
          go_ret
        · exact ⟨rfl, ⟨heap_setCell_same w1 g 1 _ 44 _ HD.out.1, hok⟩, hF.trans (hf1.trans ((Fr.one _ _ _ _).trans (Fr.drews _ _ 1)))⟩
        · exact ⟨rfl, ⟨heap_setCell_same w1 g 1 _ 44 _ HD.out.1, hok⟩, hF.trans (hf1.trans ((Fr.one _ _ _ _).trans (Fr.drews _ _ 1)))⟩
        · exact ⟨rfl, ⟨heap_setCell_same w1 g 2 _ 44 _ HD.out.1, hok⟩, hF.trans (hf1.trans ((Fr.one _ _ _ _).trans (Fr.drews _ _ 1)))⟩
        · exact ⟨rfl, ⟨heap_setCell_same w1 g 2 _ 44 _ HD.out.1, hok⟩, hF.trans (hf1.trans ((Fr.one _ _ _ _).trans (Fr.drews _ _ 1)))⟩
  · rw [if_pos hk]
    have n0 : (k != 0) = true := by simp; omega
    have n1 : (k != 1) = true := by simp; omega
    clear hk hok
    go_enter Try.func22, Try.ntmps22
    go_wp2
    go_ret
    exact ⟨rfl, h, Fr.refl _ _⟩

set_option maxRecDepth 100000 in
theorem rsync_any (g : Nat) (d : DS) (k : Int) (w : World) (h : Rk w g d) :
    Calls Try.prog 23 #[.pointer (some ⟨g, 0, none⟩), .int .i64 k] w fun e w' => e = .returned (.int .i64 ((d.sync k).1 : Nat)) ∧ Rk w' g (d.sync k).2 ∧ Fr (· = g) w w' := by
  have hok := DS.sync_ok h.2 k
  unfold DS.sync at hok ⊢
  by_cases hk : k = 0 ∨ k = 1
  · rw [if_neg (fun h => h hk)] at hok ⊢
    unfold DS.keep at hok ⊢
    have hw := DS.wcode_write d
    have hW := rwrite_any g d w h
    by_cases hz : d.write.1 = 0
    · rw [if_pos hz] at hok ⊢
      have hc : d.wcode = 0 := by omega
      rw [hc] at hW
      have hws := DS.write_same d
      have hgs := DS.get_write d k
      rw [← hgs.1] at hok ⊢
      have hsum : d.write.2.b0.length ≤ 1048576 ∧ d.write.2.b1.length ≤ 1048576 := by have := h.2.sum; have := h.2.room; rw [hws.2.1, hws.2.2.1]; omega
      clear hws hgs hc hw hz
      generalize d.write.2 = D at *
      rcases hk with rfl | rfl
      all_goals
        go_enter Try.func23, Try.ntmps23
        go_wp2_with fail
        refine hW.mono ?_
        rintro e w1 ⟨rfl, hD1, hf1⟩
        obtain ⟨-, e1, e2, e3, e4, -, -, f⟩ := hD1.cells
        have f3 := f 3
        have f4 := f 4
        have z0 := str_size D.b0
        have z1 := str_size D.b1
        clear f hW
        have HD : Hid (Rk w1 g D) := hD1
        clear hD1
        go_wp2
        go_region
        go_wp2
        go_ret
      · exact ⟨rfl, ⟨by rw [show ((D.get 0).take (D.get 0).length) = D.b0 from List.take_length]; exact heap_setCell_same w1 g 3 _ 44 _ HD.out.1, hok⟩, hf1.trans ((Fr.one _ _ _ _).trans (Fr.drews _ _ 1))⟩
      · exact ⟨rfl, ⟨by rw [show ((D.get 1).take (D.get 1).length) = D.b1 from List.take_length]; exact heap_setCell_same w1 g 4 _ 44 _ HD.out.1, hok⟩, hf1.trans ((Fr.one _ _ _ _).trans (Fr.drews _ _ 1))⟩
    · rw [if_neg hz]
      have hc : d.wcode = 1 ∨ d.wcode = 2 := by omega
      have hz2 : d.write.1 = 12 := by omega
      rw [hz2]
      clear hok hw hz hz2
      rcases hk with rfl | rfl <;> rcases hc with hc | hc <;> rw [hc] at hW
      all_goals
        go_enter Try.func23, Try.ntmps23
        go_wp2_with fail
        refine hW.mono ?_
        rintro e w1 ⟨rfl, hD1, hf1⟩
        go_wp2
        go_ret
        exact ⟨rfl, hD1, hf1⟩
  · rw [if_pos hk]
    have n0 : (k != 0) = true := by simp; omega
    have n1 : (k != 1) = true := by simp; omega
    clear hk hok
    go_enter Try.func23, Try.ntmps23
    go_wp2
    go_ret
    exact ⟨rfl, h, Fr.refl _ _⟩

set_option maxRecDepth 100000 in
theorem rcut_any (g : Nat) (d : DS) (k n : Int) (w : World) (h : Rk w g d) :
    Calls Try.prog 24 #[.pointer (some ⟨g, 0, none⟩), .int .i64 k, .int .i64 n] w fun e w' => e = .returned (.int .i64 ((d.cut k n).1 : Nat)) ∧ Rk w' g (d.cut k n).2 ∧ Fr (· = g) w w' := by
  have hok := DS.cut_ok h.2 k n
  have z0 := str_size d.b0
  have z1 := str_size d.b1
  have hsum0 : d.b0.length ≤ 1048576 ∧ d.b1.length ≤ 1048576 := by have := h.2.sum; have := h.2.room; omega
  unfold DS.cut at hok ⊢
  obtain ⟨-, c1, c2, -, -, -, -, -⟩ := h.cells
  by_cases hk : k = 0 ∨ k = 1
  · by_cases hb : n < 0 ∨ (d.get k).length < n
    · rw [if_pos (.inr hb)]
      clear hok
      by_cases h0 : n < 0
      · have n2 : decide (n < 0) = true := by simpa using h0
        rcases hk with rfl | rfl
        all_goals
          go_enter Try.func24, Try.ntmps24
          go_wp2
          go_ret
          exact ⟨rfl, h, Fr.refl _ _⟩
      · rcases hk with rfl | rfl
        · have hlt : (d.b0.length : Int) < n := by rcases hb with h1 | h1; exact absurd h1 h0; exact h1
          clear hb
          go_enter Try.func24, Try.ntmps24
          go_wp2
          go_ret
          exact ⟨rfl, h, Fr.refl _ _⟩
        · have hlt : (d.b1.length : Int) < n := by rcases hb with h1 | h1; exact absurd h1 h0; exact h1
          clear hb
          go_enter Try.func24, Try.ntmps24
          go_wp2
          go_ret
          exact ⟨rfl, h, Fr.refl _ _⟩
    · rw [if_neg (by rintro (h1 | h1); exact h1 hk; exact hb h1)] at hok ⊢
      obtain ⟨m, rfl⟩ : ∃ m : Nat, n = m := ⟨n.toNat, by omega⟩
      simp only [Int.toNat_natCast] at hok ⊢
      have hle : (m : Int) ≤ (d.get k).length := by omega
      unfold DS.keep at hok ⊢
      have hw := DS.wcode_write d
      have hW := rwrite_any g d w h
      by_cases hz : d.write.1 = 0
      · rw [if_pos hz] at hok ⊢
        have hc : d.wcode = 0 := by omega
        rw [hc] at hW
        have hws := DS.write_same d
        have hgs := DS.get_write d k
        rw [← hgs.1] at hok ⊢
        have hb0 := hws.2.1
        have hb1 := hws.2.2.1
        clear hws hgs hc hw hz hb
        generalize d.write.2 = D at *
        have t0 := str_take D.b0 m
        have t1 := str_take D.b1 m
        have y0 := str_size D.b0
        have y1 := str_size D.b1
        rcases hk with rfl | rfl
        · have hle2 : (m : Int) ≤ (d.b0.length : Int) := hle
          have hle3 : (m : Int) ≤ (D.b0.length : Int) := by rw [hb0]; exact hle2
          have hl3 : D.b0.length ≤ 1048576 := by rw [hb0]; exact hsum0.1
          clear hle hb0 hb1
          go_enter Try.func24, Try.ntmps24
          go_wp2_with fail
          refine hW.mono ?_
          rintro e w1 ⟨rfl, hD1, hf1⟩
          obtain ⟨-, e1, e2, e3, e4, -, -, f⟩ := hD1.cells
          have f1 := f 1
          have f3 := f 3
          clear f hW
          have HD : Hid (Rk w1 g D) := hD1
          clear hD1
          go_wp2
          go_region
          go_wp2
          go_ret
          exact ⟨rfl, ⟨heap_setCell_same _ g 3 _ 44 _ (heap_setCell_same w1 g 1 _ 44 _ HD.out.1), hok⟩, hf1.trans (((Fr.one _ _ _ _).trans (Fr.drews _ _ 1)).trans (Fr.one _ _ _ _))⟩
        · have hle2 : (m : Int) ≤ (d.b1.length : Int) := hle
          have hle3 : (m : Int) ≤ (D.b1.length : Int) := by rw [hb1]; exact hle2
          have hl3 : D.b1.length ≤ 1048576 := by rw [hb1]; exact hsum0.2
          clear hle hb0 hb1
          go_enter Try.func24, Try.ntmps24
          go_wp2_with fail
          refine hW.mono ?_
          rintro e w1 ⟨rfl, hD1, hf1⟩
          obtain ⟨-, e1, e2, e3, e4, -, -, f⟩ := hD1.cells
          have f2 := f 2
          have f4 := f 4
          clear f hW
          have HD : Hid (Rk w1 g D) := hD1
          clear hD1
          go_wp2
          go_region
          go_wp2
          go_ret
          exact ⟨rfl, ⟨heap_setCell_same _ g 4 _ 44 _ (heap_setCell_same w1 g 2 _ 44 _ HD.out.1), hok⟩, hf1.trans (((Fr.one _ _ _ _).trans (Fr.drews _ _ 1)).trans (Fr.one _ _ _ _))⟩
      · rw [if_neg hz]
        have hc : d.wcode = 1 ∨ d.wcode = 2 := by omega
        have hz2 : d.write.1 = 12 := by omega
        rw [hz2]
        clear hok hw hz hz2 hb
        rcases hk with rfl | rfl
        · have hle2 : (m : Int) ≤ (d.b0.length : Int) := hle
          clear hle
          rcases hc with hc | hc <;> rw [hc] at hW
          all_goals
            go_enter Try.func24, Try.ntmps24
            go_wp2_with fail
            refine hW.mono ?_
            rintro e w1 ⟨rfl, hD1, hf1⟩
            go_wp2
            go_ret
            exact ⟨rfl, hD1, hf1⟩
        · have hle2 : (m : Int) ≤ (d.b1.length : Int) := hle
          clear hle
          rcases hc with hc | hc <;> rw [hc] at hW
          all_goals
            go_enter Try.func24, Try.ntmps24
            go_wp2_with fail
            refine hW.mono ?_
            rintro e w1 ⟨rfl, hD1, hf1⟩
            go_wp2
            go_ret
            exact ⟨rfl, hD1, hf1⟩
  · rw [if_pos (.inl hk)]
    have n0 : (k != 0) = true := by simp; omega
    have n1 : (k != 1) = true := by simp; omega
    clear hk hok
    go_enter Try.func24, Try.ntmps24
    go_wp2
    go_ret
    exact ⟨rfl, h, Fr.refl _ _⟩
end Go.Proofs.Ytpejijiolcfglaa
