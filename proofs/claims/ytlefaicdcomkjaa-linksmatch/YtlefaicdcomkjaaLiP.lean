/- The document's Alike of flat entries. -/
import Derived.Test.YtlefaicdcomkjaaLiO
namespace Go.Proofs.Ytlefaicdcomkjaa
open Go Go.RowKit
set_option linter.unusedVariables false
set_option linter.unusedSimpArgs false

/-- ten cells in a row -/
def Row10 (w : World) (b o : Nat) (ep s : Int) (v1 v2 : Value) : Prop :=
  w.cell? ⟨b, o, none⟩ = some (.int .u64 ep) ∧ w.cell? ⟨b, o + 1, none⟩ = some (.int .i64 2) ∧ w.cell? ⟨b, o + 2, none⟩ = some (.int .i64 0) ∧ w.cell? ⟨b, o + 3, none⟩ = some (.int .u64 0) ∧ w.cell? ⟨b, o + 4, none⟩ = some (.bool false) ∧ w.cell? ⟨b, o + 5, none⟩ = some v1 ∧ w.cell? ⟨b, o + 6, none⟩ = some v2 ∧ w.cell? ⟨b, o + 7, none⟩ = some (.int .i64 0) ∧ w.cell? ⟨b, o + 8, none⟩ = some (.int .u64 s) ∧ w.cell? ⟨b, o + 9, none⟩ = some (.int .i64 0)
theorem cell_later {w w' : World} {a : Addr} {v : Value} (h : w.cell? a = some v) (hb : Below w.heap.size w w') : w'.cell? a = some v := (hb.cell (World.block_lt_of_cell? _ _ h)).trans h
theorem Row10.later {w w' : World} {b o : Nat} {ep s : Int} {v1 v2 : Value} (h : Row10 w b o ep s v1 v2) (hb : Below w.heap.size w w') : Row10 w' b o ep s v1 v2 := by
  obtain ⟨h0, h1, h2, h3, h4, h5, h6, h7, h8, h9⟩ := h
  exact ⟨cell_later h0 hb, cell_later h1 hb, cell_later h2 hb, cell_later h3 hb, cell_later h4 hb, cell_later h5 hb, cell_later h6 hb, cell_later h7 hb, cell_later h8 hb, cell_later h9 hb⟩
theorem At.row {w : World} {a : Option Addr} {Q : List Ev} {k : Nat} {e : Ev} (h : At Ev.cells w a Q) (hx : Q[k]? = some e) : ∃ b off, a = some ⟨b, off, none⟩ ∧ ∀ j, j < 10 → w.cell? ⟨b, off + (k * 10 + j), none⟩ = (Ev.cells e)[j]? := by
  cases a with
  | none => rw [h.1 rfl] at hx; simp at hx
  | some ad =>
    obtain ⟨b, off, spot⟩ := ad
    obtain rfl : spot = none := (h.2 _ rfl).1
    refine ⟨b, off, rfl, fun j hj => ?_⟩
    have hf := flat_at Ev.cells 10 (fun _ => rfl) Q k j e hx hj
    have hlen : j < (Ev.cells e).length := hj
    have hu : (Q.flatMap Ev.cells)[k * 10 + j]? = some (Ev.cells e)[j] := by rw [hf, List.getElem?_eq_getElem hlen]
    have hc := (h.2 _ rfl).2 _ _ hu
    rw [Addr.add_lit] at hc
    rw [List.getElem?_eq_getElem hlen, ← hc]
theorem owns_len {w : World} {b e n m k c : Nat} {a : Option Addr} {xs : List Value} (h : w.ownsRow b e n (.slice a k c) m xs) : k = m := by
  rcases h.2 with ⟨h0, h1⟩ | ⟨q, cap, cur, h0, _⟩
  · simp only [Value.slice.injEq] at h0
    first | omega | simp_all
  · simp only [Value.slice.injEq] at h0
    omega
theorem core_flat {e : Ev} {a : En} {w : World} (h : core e = core (flatE a)) (hm : e.rmem w) : ∃ x1 y1 x2 y2, e = ⟨a.1, 2, (0, 0), false, .slice x1 0 y1, .slice x2 0 y2, (0, a.2), 0, [], []⟩ := by
  obtain ⟨ep, kd, tid, pl, v1, v2, id, cd, l1, l2⟩ := e
  simp only [core, flatE, Prod.mk.injEq] at h
  obtain ⟨rfl, rfl, rfl, rfl, rfl, rfl, rfl, rfl⟩ := h
  obtain ⟨x1, n1, y1, e1⟩ := owns_slice hm.r
  obtain ⟨x2, n2, y2, e2⟩ := owns_slice hm.w
  simp only at e1 e2
  subst e1
  subst e2
  have hr := hm.r
  have hw := hm.w
  simp only at hr hw
  have f1 := owns_len hr
  have f2 := owns_len hw
  simp at f1 f2
  subst f1
  subst f2
  exact ⟨x1, y1, x2, y2, rfl⟩
theorem At.flat {w : World} {a : Option Addr} {Q : List Ev} {A : Lo} {k : Nat} {x : En} (h : At Ev.cells w a Q) (hm : ∀ e ∈ Q, e.rmem w) (hc : Q.map core = (flatL A).map core) (hx : A[k]? = some x) : ∃ b off x1 y1 x2 y2, a = some ⟨b, off, none⟩ ∧ Row10 w b (off + k * 10) x.1 x.2 (.slice x1 0 y1) (.slice x2 0 y2) := by
  have h1 : ((flatL A).map core)[k]? = some (core (flatE x)) := by simp [flatL, hx]
  rw [← hc, List.getElem?_map] at h1
  obtain ⟨e, he, hce⟩ : ∃ e, Q[k]? = some e ∧ core e = core (flatE x) := by
    cases hq : Q[k]? with
    | none => rw [hq] at h1; cases h1
    | some e => rw [hq] at h1; exact ⟨e, rfl, by simpa using h1⟩
  obtain ⟨x1, y1, x2, y2, rfl⟩ := core_flat hce (hm e (List.mem_of_getElem? he))
  obtain ⟨b, off, rfl, hcell⟩ := h.row he
  simp only [← Nat.add_assoc] at hcell
  exact ⟨b, off, x1, y1, x2, y2, rfl, hcell 0 (by omega), hcell 1 (by omega), hcell 2 (by omega), hcell 3 (by omega), hcell 4 (by omega), hcell 5 (by omega), hcell 6 (by omega), hcell 7 (by omega), hcell 8 (by omega), hcell 9 (by omega)⟩
set_option maxRecDepth 100000 in
set_option maxHeartbeats 8000000 in
theorem alike_any (pa qa : Option Addr) (n c d : Nat) (A : Lo) (Q R : List Ev) (w : World) (hQ : At Ev.cells w pa Q) (hR : At Ev.cells w qa R) (mQ : ∀ e ∈ Q, e.rmem w) (mR : ∀ e ∈ R, e.rmem w) (cQ : Q.map core = (flatL A).map core) (cR : R.map core = (flatL A).map core) (hn : n = A.length) (hl : n ≤ 1000) :
    Calls Try.prog 9 #[.slice pa n c, .slice qa n d] w fun e w' => e = .returned (.bool true) ∧ Below w.heap.size w w' := by
  have HA : Hid (∀ k x, A[k]? = some x → (∃ b off x1 y1 x2 y2, pa = some ⟨b, off, none⟩ ∧ Row10 w b (off + k * 10) x.1 x.2 (.slice x1 0 y1) (.slice x2 0 y2)) ∧ (∃ b off x1 y1 x2 y2, qa = some ⟨b, off, none⟩ ∧ Row10 w b (off + k * 10) x.1 x.2 (.slice x1 0 y1) (.slice x2 0 y2))) := fun k x hx => ⟨hQ.flat mQ cQ hx, hR.flat mR cR hx⟩
  have HN : Hid (n = A.length) := hn
  clear hQ hR mQ mR cQ cR hn
  have hz : ((n : Int) != (n : Int)) = false := by simp
  go_enter Try.func9, Try.ntmps9
  go_wp2
  clear hz
  go_loopw [13] (fun i wr => ∃ k : Nat, k ≤ n ∧ i = .int .i64 (k : Nat) ∧ Hid (Below w.heap.size w wr)) (fun i _ => n - (intOf i).toNat)
  case atStart => exact ⟨0, Nat.zero_le _, rfl, Below.refl _ _⟩
  case round =>
    obtain ⟨k, hk, rfl, HB⟩ := hrel
    by_cases hlt : k < n
    · have hkA : k < A.length := by rw [← HN.out]; exact hlt
      have hx : A[k]? = some A[k] := List.getElem?_eq_getElem hkA
      generalize A[k] = x at hx
      obtain ⟨⟨b, off, x1, y1, x2, y2, rfl, r1⟩, ⟨b', off', z1, u1, z2, u2, rfl, r2⟩⟩ := HA.out k x hx
      obtain ⟨ep, s⟩ := x
      clear hx hkA
      have HR1 : Hid (Row10 wr b (off + k * 10) ep s (.slice x1 0 y1) (.slice x2 0 y2) ∧ Row10 wr b' (off' + k * 10) ep s (.slice z1 0 u1) (.slice z2 0 u2)) := ⟨r1.later HB.out, r2.later HB.out⟩
      clear r1 r2
      have hk0 : (0 : Int) ≤ (k : Int) := by omega
      go_upto_region 6 with fail
      refine wp_region_noPanic ?_
      refine wp_region_held_drew (S := (fun w' => Row10 w' b (off + k * 10) ep s (.slice x1 0 y1) (.slice x2 0 y2) ∧ Row10 w' b' (off' + k * 10) ep s (.slice z1 0 u1) (.slice z2 0 u2))) (by kernel_rfl) ?_ (fun hHeld => ?_)
      · exact HR1.out
      refine held_take (i := 0) (d := 16) (v := ?_) rfl rfl (by kernel_rfl) (by kernel_rfl) (by kernel_rfl) (fun _ _ _ h => h) (Or.inl ⟨by rfl, ?_⟩) hHeld ?_
      rotate_left
      · (intro w hSw; (try simp only [Row10] at hSw); go_simp; all_goals (with_reducible rfl))
      try simp only [Act.put, List.setIfInBounds_toArray, List.set_cons_zero, List.set_cons_succ]
      refine held_take (i := 1) (d := 17) (v := ?_) rfl rfl (by kernel_rfl) (by kernel_rfl) (by kernel_rfl) (fun _ _ _ h => h) (Or.inl ⟨by rfl, ?_⟩) hHeld ?_
      rotate_left
      · (intro w hSw; (try simp only [Row10] at hSw); go_simp; all_goals (with_reducible rfl))
      try simp only [Act.put, List.setIfInBounds_toArray, List.set_cons_zero, List.set_cons_succ]
      refine held_take (i := 2) (d := 18) (v := ?_) rfl rfl (by kernel_rfl) (by kernel_rfl) (by kernel_rfl) (fun _ _ _ h => h) (Or.inl ⟨by rfl, ?_⟩) hHeld ?_
      rotate_left
      · (intro w hSw; (try simp only [Row10] at hSw); go_simp; all_goals (with_reducible rfl))
      try simp only [Act.put, List.setIfInBounds_toArray, List.set_cons_zero, List.set_cons_succ]
      refine held_take (i := 3) (d := 19) (v := ?_) rfl rfl (by kernel_rfl) (by kernel_rfl) (by kernel_rfl) (fun _ _ _ h => h) (Or.inl ⟨by rfl, ?_⟩) hHeld ?_
      rotate_left
      · (intro w hSw; (try simp only [Row10] at hSw); go_simp; all_goals (with_reducible rfl))
      try simp only [Act.put, List.setIfInBounds_toArray, List.set_cons_zero, List.set_cons_succ]
      refine held_take (i := 4) (d := 20) (v := ?_) rfl rfl (by kernel_rfl) (by kernel_rfl) (by kernel_rfl) (fun _ _ _ h => h) (Or.inl ⟨by rfl, ?_⟩) hHeld ?_
      rotate_left
      · (intro w hSw; (try simp only [Row10] at hSw); go_simp; all_goals (with_reducible rfl))
      try simp only [Act.put, List.setIfInBounds_toArray, List.set_cons_zero, List.set_cons_succ]
      refine held_take (i := 5) (d := 21) (v := ?_) rfl rfl (by kernel_rfl) (by kernel_rfl) (by kernel_rfl) (fun _ _ _ h => h) (Or.inl ⟨by rfl, ?_⟩) hHeld ?_
      rotate_left
      · (intro w hSw; (try simp only [Row10] at hSw); go_simp; all_goals (with_reducible rfl))
      try simp only [Act.put, List.setIfInBounds_toArray, List.set_cons_zero, List.set_cons_succ]
      refine held_take (i := 6) (d := 22) (v := ?_) rfl rfl (by kernel_rfl) (by kernel_rfl) (by kernel_rfl) (fun _ _ _ h => h) (Or.inl ⟨by rfl, ?_⟩) hHeld ?_
      rotate_left
      · (intro w hSw; (try simp only [Row10] at hSw); go_simp; all_goals (with_reducible rfl))
      try simp only [Act.put, List.setIfInBounds_toArray, List.set_cons_zero, List.set_cons_succ]
      refine held_take (i := 7) (d := 23) (v := ?_) rfl rfl (by kernel_rfl) (by kernel_rfl) (by kernel_rfl) (fun _ _ _ h => h) (Or.inl ⟨by rfl, ?_⟩) hHeld ?_
      rotate_left
      · (intro w hSw; (try simp only [Row10] at hSw); go_simp; all_goals (with_reducible rfl))
      try simp only [Act.put, List.setIfInBounds_toArray, List.set_cons_zero, List.set_cons_succ]
      refine wpAnyH_ready (rs := [8]) (by kernel_rfl) (by simp) ?_
      refine AllReadyH.cons rfl (fun K hK => ?_) AllReadyH.nil
      go_simp
      refine (dsame_flat ep s _ _ _ _ _ _ _ _ _).mono ?_
      rintro e v2 ⟨rfl, hb2⟩
      have HB2 : Hid (Below w.heap.size w v2) := HB.out.drew.trans (hb2.mono (by simp only [World.size_drew]; exact HB.out.size))
      have HR2 : Hid (Row10 v2 b (off + k * 10) ep s (.slice x1 0 y1) (.slice x2 0 y2) ∧ Row10 v2 b' (off' + k * 10) ep s (.slice z1 0 u1) (.slice z2 0 u2)) := ⟨(HR1.out.1.later (Below.refl _ _).drew).later hb2, (HR1.out.2.later (Below.refl _ _).drew).later hb2⟩
      clear hb2 HR1 HB
      go_wp2_with fail
      refine hK.out _ _ ?_ (fun hHeld => ?_)
      · exact HR2.out
      clear hK K
      try simp only [Act.put, List.setIfInBounds_toArray, List.set_cons_zero, List.set_cons_succ]
      refine held_take (i := 9) (d := 25) (v := ?_) rfl rfl (by kernel_rfl) (by kernel_rfl) (by kernel_rfl) (fun _ _ _ h => h) (Or.inl ⟨by rfl, ?_⟩) hHeld ?_
      rotate_left
      · (intro w hSw; (try simp only [Row10] at hSw); go_simp; all_goals (with_reducible rfl))
      try simp only [Act.put, List.setIfInBounds_toArray, List.set_cons_zero, List.set_cons_succ]
      refine wpAnyH_done (by kernel_rfl) ?_ _
      refine NoPanic.normal ?_
      go_wp2
      go_roundw
      case rel => exact ⟨k + 1, by omega, by go_num, HB2⟩
      case measure => simp [intOf]; omega
    · go_wp2
      go_ret
      exact ⟨rfl, HB.out⟩
end Go.Proofs.Ytlefaicdcomkjaa
