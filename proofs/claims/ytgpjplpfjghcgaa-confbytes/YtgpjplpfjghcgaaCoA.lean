/- Configurations in memory; which servers there are, where one stands, whether a chain may be. -/
import Derived.Test.YtgpjplpfjghcgaaEnG
import Derived.Test.YtgpjplpfjghcgaaCoM
namespace Go.Proofs.Ytgpjplpfjghcgaa
open Go Go.RowKit
set_option linter.unusedVariables false
set_option linter.unusedSimpArgs false

def mi (m : Mb) : Value := .int .i64 m.1
def mb (m : Mb) : Value := .bool m.2
/-- elements of one cell each, where they lie -/
def Vals (w : World) (a : Option Addr) (n : Nat) (xs : List Value) : Prop :=
  xs.length = n ∧ (xs = [] ∨ ∃ b off, a = some ⟨b, off, none⟩ ∧ ∀ i u, xs[i]? = some u → w.cell? ⟨b, off + i, none⟩ = some u)
theorem Vals.later {w wx : World} {a : Option Addr} {n : Nat} {xs : List Value} (h : Vals w a n xs) (hb : Below w.heap.size w wx) : Vals wx a n xs := by
  refine ⟨h.1, ?_⟩
  rcases h.2 with h | ⟨b, off, e, hc⟩
  · exact .inl h
  · exact .inr ⟨b, off, e, fun i u hi => cell_later hb (hc i u hi)⟩
theorem Vals.at {w : World} {a : Option Addr} {n : Nat} {xs : List Value} (h : Vals w a n xs) (hn : 0 < n) : ∃ b off, a = some ⟨b, off, none⟩ ∧ ∀ i u, xs[i]? = some u → w.cell? ⟨b, off + i, none⟩ = some u := by
  rcases h.2 with e | h2
  · have := h.1; rw [e] at this; simp at this; omega
  · exact h2
theorem Vals.own {w : World} {base : Nat} {e : TypeId} {v : Value} {xs : List Value} (h : OwnV w base e v xs) : ∃ a cap, v = .slice a xs.length cap ∧ xs.length ≤ cap ∧ cap ≤ maxLen ∧ Vals w a xs.length xs := by
  obtain ⟨a, cap, rfl, h1, h2, h3, h4⟩ := h.shape
  refine ⟨a, cap, rfl, h1, h2, rfl, ?_⟩
  cases a with
  | none => exact .inl (h3 rfl).1
  | some x =>
    obtain ⟨g, rfl, _, _, hc⟩ := h4 x rfl
    exact .inr ⟨g, 0, rfl, fun i u hi => by rw [Nat.zero_add]; exact hc i u hi⟩

theorem server_any (x : Int) (w : World) : Calls Try.prog 30 #[.int .i64 x] w fun e w' => e = .returned (.bool (srv x)) ∧ w' = w := by
  by_cases h0 : 0 ≤ x
  · go_enter Try.func30, Try.ntmps30
    go_wp2
    all_goals (go_ret; refine ⟨ret_bool ?_, rfl⟩; first | exact (srv_true.2 (by omega)).symm | exact (srv_false.2 (by omega)).symm | (simp [srv, *]; try omega))
  · go_enter Try.func30, Try.ntmps30
    go_wp2
    all_goals (go_ret; refine ⟨ret_bool ?_, rfl⟩; first | exact (srv_true.2 (by omega)).symm | exact (srv_false.2 (by omega)).symm | (simp [srv, *]; try omega))

theorem index_any (a : Option Addr) (n c : Nat) (l : List Int) (x : Int) (w : World) (h : Vals w a n (l.map (Value.int .i64))) (hm : n ≤ 1000000) :
    Calls Try.prog 28 #[.slice a n c, .int .i64 x] w fun e w' => e = .returned (.int .i64 (plc l x)) ∧ w' = w := by
  have hn : l.length = n := by have := h.1; simpa using this
  have HV : Hid (Vals w a n (l.map (Value.int .i64))) := h
  clear h
  go_enter Try.func28, Try.ntmps28
  go_wp2
  go_loop [8] (fun i => ∃ k : Nat, k ≤ n ∧ i = .int .i64 (k : Nat) ∧ ∀ j : Nat, j < k → l[j]? ≠ some x) (fun i => n - (intOf i).toNat)
  case atStart => exact ⟨0, Nat.zero_le _, rfl, fun j hj => absurd hj (Nat.not_lt_zero _)⟩
  case round =>
    obtain ⟨k, hk, rfl, hne⟩ := hrel
    have HN : Hid (∀ j : Nat, j < k → l[j]? ≠ some x) := hne
    clear hne
    by_cases hlt : k < n
    · obtain ⟨b, off, rfl, hc⟩ := HV.out.at (by omega)
      have hk2 : k < l.length := by omega
      have c0 := hc k (.int .i64 l[k]) (by simp [hk2])
      have HG : Hid (l[k]? = some l[k]) := List.getElem?_eq_getElem hk2
      clear hc
      generalize l[k] = y at c0 HG
      by_cases hy : x = y
      · subst hy
        go_wp2
        go_ret
        exact ⟨ret_int (plc_hit k HG.out HN.out).symm, rfl⟩
      · go_wp2
        go_round
        case rel => exact ⟨k + 1, by omega, by go_num, fun j hj => by
          by_cases e : j = k
          · rw [e, HG.out]; simpa using fun e => hy e.symm
          · exact HN.out j (by omega)⟩
        case measure => simp [intOf]; omega
    · go_wp2
      go_ret
      exact ⟨ret_int (plc_none (fun j hj => HN.out j (by omega))).symm, rfl⟩

theorem contains_any (a : Option Addr) (n c : Nat) (l : List Int) (x : Int) (w : World) (h : Vals w a n (l.map (Value.int .i64))) (hm : n ≤ 1000000) :
    Calls Try.prog 31 #[.slice a n c, .int .i64 x] w fun e w' => e = .returned (.bool (decide (x ∈ l))) ∧ w' = w := by
  have h1 := index_any a n c l x w h hm
  have hp : (plc l x ≥ 0) ↔ x ∈ l := by
    have := @plc_neg l x
    by_cases e : x ∈ l
    · simp [e] at this ⊢; omega
    · simp [e] at this ⊢; omega
  have HP : Hid (decide (plc l x ≥ 0) = decide (x ∈ l)) := by rw [decide_eq_decide]; exact hp
  clear h hp
  generalize plc l x = p at *
  go_enter Try.func31, Try.ntmps31
  go_wp2_with (go_at_call 28; refine h1.mono ?_; rintro e w' ⟨rfl, rfl⟩)
  go_ret
  exact ⟨ret_bool HP.out, rfl⟩
/-- which servers were seen -/
def Seen (w : World) (p : Nat) (l : List Int) : Prop := ∃ cs : Array Value, w.heap[p]? = some (.cells cs 77 (0, 0)) ∧ cs.size = 8 ∧ ∀ j : Nat, j < 8 → cs[j]? = some (.bool (decide ((j : Int) ∈ l)))
theorem Seen.cell {w : World} {p : Nat} {l : List Int} (h : Seen w p l) {j : Nat} (hj : j < 8) : w.cell? ⟨p, j, none⟩ = some (.bool (decide ((j : Int) ∈ l))) ∧ w.frozen? ⟨p, j, none⟩ = false := by
  obtain ⟨cs, h1, h2, h3⟩ := h
  exact ⟨cell_of_heap h1 (h3 j hj), by simp [World.frozen?, h1]⟩
theorem Seen.put {w : World} {p : Nat} {l : List Int} (h : Seen w p l) {j : Nat} (hj : j < 8) : Seen (w.setCell ⟨p, j, none⟩ (.bool true)) p (l ++ [(j : Int)]) := by
  obtain ⟨cs, h1, h2, h3⟩ := h
  refine ⟨cs.setIfInBounds j (.bool true), heap_setCell_same _ _ _ _ _ _ h1, by simp [h2], fun i hi => ?_⟩
  rw [Array.getElem?_setIfInBounds]
  by_cases e : j = i
  · subst e
    simp [h2, hj]
  · rw [if_neg e, h3 i hi]
    have : ((i : Int) ∈ l ++ [(j : Int)]) ↔ (i : Int) ∈ l := by
      simp; omega
    simp only [this]
theorem Seen.lt {w : World} {p : Nat} {l : List Int} (h : Seen w p l) : p < w.heap.size := by
  obtain ⟨cs, h1, _⟩ := h
  exact (Array.getElem?_eq_some_iff.1 h1).1

theorem chain_any (a : Option Addr) (n c : Nat) (l : List Int) (w : World) (h : Vals w a n (l.map (Value.int .i64))) (hm : n ≤ 1000000) :
    Calls Try.prog 29 #[.slice a n c] w fun e w' => e = .returned (.bool (chOk l)) ∧ Below w.heap.size w w' := by
  have hn : l.length = n := by have := h.1; simpa using this
  have HV : Hid (Vals w a n (l.map (Value.int .i64))) := h
  have hend : (0 < n) ↔ l ≠ [] := by
    rw [← List.length_pos_iff]
    omega
  have HE : Hid (decide (0 < n) = decide (l ≠ [])) := by rw [decide_eq_decide]; exact hend
  clear h hend
  go_enter Try.func29, Try.ntmps29
  go_wp2
  go_loopw [8] (fun i wr => ∃ k : Nat, k ≤ n ∧ i = .int .i64 (k : Nat) ∧ Hid (okUpto (l.take k) = true) ∧ Hid (Seen wr w.heap.size (l.take k)) ∧ Hid (Below w.heap.size w wr)) (fun i _ => n - (intOf i).toNat)
  case atStart => exact ⟨0, Nat.zero_le _, rfl, rfl, ⟨_, heap_alloc_new _ _, rfl, fun j hj => by simp; rcases j with _ | _ | _ | _ | _ | _ | _ | _ | j <;> first | rfl | omega⟩, (Below.refl _ _).alloc (Nat.le_refl _) _⟩
  case round =>
    obtain ⟨k, hk, rfl, HOK, HSE, HB⟩ := hrel
    by_cases hlt : k < n
    · obtain ⟨b, off, rfl, hc⟩ := (HV.out.later HB.out).at (by omega)
      have hk2 : k < l.length := by omega
      have c0 := hc k (.int .i64 l[k]) (by simp [hk2])
      have hg : l[k]? = some l[k] := List.getElem?_eq_getElem hk2
      have HT : Hid (l.take (k + 1) = l.take k ++ [l[k]]) := List.take_succ_eq_append_getElem hk2
      clear hc
      generalize l[k] = y at c0 hg HT
      have HG : Hid (l[k]? = some y) := hg
      clear hg
      by_cases hs : srv y = true
      · have hs2 := srv_true.1 hs
        obtain ⟨j, rfl⟩ : ∃ j : Nat, y = (j : Int) := ⟨y.toNat, by omega⟩
        obtain ⟨c1, f1⟩ := HSE.out.cell (j := j) (by omega)
        have HP : Hid (Seen (wr.setCell ⟨w.heap.size, j, none⟩ (.bool true)) w.heap.size (l.take k ++ [(j : Int)])) := HSE.out.put (by omega)
        have hsv := server_any (j : Int)
        rw [hs] at hsv
        have hj8 : j < 8 := by omega
        by_cases hin : (j : Int) ∈ l.take k
        · have hd : decide ((j : Int) ∈ l.take k) = true := by simpa using hin
          have HBAD : Hid (okUpto l = false) := okUpto_bad HG.out (.inr hin)
          rw [hd] at c1
          clear hin hd hs hs2
          go_wp2_with (go_at_call 30; refine (hsv _).mono ?_; rintro e w' ⟨rfl, rfl⟩)
          go_ret
          exact ⟨ret_bool (by simp [chOk, HBAD.out]), HB.out⟩
        · have hd : decide ((j : Int) ∈ l.take k) = false := by simpa using hin
          have HOK2 : Hid (okUpto (l.take (k + 1)) = true) := by rw [Hid, HT.out, okUpto_snoc, HOK.out, hs, hd]; rfl
          rw [hd] at c1
          clear hin hd hs hs2
          go_wp2_with (go_at_call 30; refine (hsv _).mono ?_; rintro e w' ⟨rfl, rfl⟩)
          go_roundw
          case rel => exact ⟨k + 1, by omega, by go_num, HOK2, by rw [HT.out]; exact HP, HB.out.setCell (by simp) _⟩
          case measure => simp [intOf]; omega
      · have hs3 : srv y = false := by simpa using hs
        have HBAD : Hid (okUpto l = false) := okUpto_bad HG.out (.inl hs3)
        have hsv := server_any y
        rw [hs3] at hsv
        clear hs hs3
        go_wp2_with (go_at_call 30; refine (hsv _).mono ?_; rintro e w' ⟨rfl, rfl⟩)
        go_ret
        exact ⟨ret_bool (by simp [chOk, HBAD.out]), HB.out⟩
    · have hkn : k = l.length := by omega
      have HOK2 : Hid (okUpto l = true) := by have := HOK.out; rw [hkn, List.take_length] at this; exact this
      go_wp2
      go_ret
      exact ⟨ret_bool (by rw [HE.out, chOk, HOK2.out]; rfl), HB.out⟩
end Go.Proofs.Ytgpjplpfjghcgaa
