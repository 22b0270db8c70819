/- Undo and Clean of a space: contracts; the law's own space in memory: rows of a key and its versions. -/
import Derived.Test.YtmahigfamgbhfaaSpI
import Derived.Test.YtmahigfamgbhfaaSpE
namespace Go.Proofs.Ytmahigfamgbhfaa
open Go.RowKit Go.Maps
set_option linter.unusedVariables false

theorem sundo_any (g bm n : Nat) (D : DataW Value) (F : ByteArray → List Ver) (m : Int) (w : World) (h : Sp w g bm n D F) (hn : n < maxLen) :
    Calls Try.prog 40 #[.pointer (some ⟨g, 0, none⟩), .int .i64 m] w fun e w' => e = .returned (.tuple #[]) ∧ (∃ D', Sp w' g bm n D' (fun s => undoL (F s) m)) ∧ w.grownBy w' (some bm) := by
  have hb : Below w.heap.size w (w.alloc (.cells #[.int .i64 m] 3)) := (Below.refl _ _).alloc (Nat.le_refl _) _
  have hc : (w.alloc (.cells #[.int .i64 m] 3)).cell? ⟨w.heap.size, 0, none⟩ = some (.int .i64 m) := cell_of_heap (heap_alloc_new w _) rfl
  have h1 := change_undo g bm n w.heap.size D F m _ (h.later hb) hn hc
  clear h hc
  go_enter Try.func40, Try.ntmps40
  go_wp2_with fail
  refine h1.mono ?_
  rintro e w1 ⟨rfl, hd, hg⟩
  have HD : Hid (∃ D', Sp w1 g bm n D' (fun s => undoL (F s) m)) := hd
  have HG : Hid (w.grownBy w1 (some bm)) := ((grown_of_below hb).but _).andThen hg (fun j hj => Or.inr hj)
  clear h1 hd hg hb
  go_wp2
  go_end0
  exact ⟨rfl, HD.out, HG.out⟩
theorem sclean_any (g bm n : Nat) (D : DataW Value) (F : ByteArray → List Ver) (m : Int) (w : World) (h : Sp w g bm n D F) (hn : n < maxLen) :
    Calls Try.prog 41 #[.pointer (some ⟨g, 0, none⟩), .int .i64 m] w fun e w' => e = .returned (.tuple #[]) ∧ (∃ D', Sp w' g bm n D' (fun s => cleanL (F s) m)) ∧ w.grownBy w' (some bm) := by
  have hb : Below w.heap.size w (w.alloc (.cells #[.int .i64 m] 3)) := (Below.refl _ _).alloc (Nat.le_refl _) _
  have hc : (w.alloc (.cells #[.int .i64 m] 3)).cell? ⟨w.heap.size, 0, none⟩ = some (.int .i64 m) := cell_of_heap (heap_alloc_new w _) rfl
  have h1 := change_clean g bm n w.heap.size D F m _ (h.later hb) hn hc
  clear h hc
  go_enter Try.func41, Try.ntmps41
  go_wp2_with fail
  refine h1.mono ?_
  rintro e w1 ⟨rfl, hd, hg⟩
  have HD : Hid (∃ D', Sp w1 g bm n D' (fun s => cleanL (F s) m)) := hd
  have HG : Hid (w.grownBy w1 (some bm)) := ((grown_of_below hb).but _).andThen hg (fun j hj => Or.inr hj)
  clear h1 hd hg hb
  go_wp2
  go_end0
  exact ⟨rfl, HD.out, HG.out⟩

/-! the law's own space -/
/-- a row of the document's versions, as a value in memory -/
def Rf (w : World) (u : Value) (l : List Ver) : Prop := ∃ a k c, u = .slice a k c ∧ VRow w a k l ∧ (a = none → c = 0)
abbrev LRow := ByteArray × List Ver
def rkey (L : List LRow) (i : Nat) : ByteArray := (L[i]?.getD (⟨#[]⟩, [])).1
def rvers (L : List LRow) (i : Nat) : List Ver := (L[i]?.getD (⟨#[]⟩, [])).2
/-- rows of keys and versions, as a slice's elements lie in memory -/
def RRow (w : World) (a : Option Addr) (n : Nat) (L : List LRow) : Prop :=
  L.length = n ∧ n ≤ 1000000 ∧ (L = [] ∨ ∃ b off, a = some ⟨b, off, none⟩ ∧ ∀ i, i < n → w.cell? ⟨b, off + i * 2, none⟩ = some (.string (rkey L i)) ∧ ∃ u, w.cell? ⟨b, off + i * 2 + 1, none⟩ = some u ∧ Rf w u (rvers L i))
theorem Rf.later {w wx : World} {u : Value} {l : List Ver} (h : Rf w u l) (hb : Below w.heap.size w wx) : Rf wx u l := by
  obtain ⟨a, k, c, e, h, h0⟩ := h
  exact ⟨a, k, c, e, h.later hb, h0⟩
theorem RRow.later {w wx : World} {a : Option Addr} {n : Nat} {L : List LRow} (h : RRow w a n L) (hb : Below w.heap.size w wx) : RRow wx a n L := by
  obtain ⟨h1, h2, h3⟩ := h
  refine ⟨h1, h2, ?_⟩
  rcases h3 with h3 | ⟨b, off, e, hc⟩
  · exact .inl h3
  · refine .inr ⟨b, off, e, fun i hi => ?_⟩
    obtain ⟨c0, u, c1, hu⟩ := hc i hi
    exact ⟨cell_later hb c0, u, cell_later hb c1, hu.later hb⟩
theorem RRow.at {w : World} {a : Option Addr} {n : Nat} {L : List LRow} (h : RRow w a n L) (hn : 0 < n) : ∃ b off, a = some ⟨b, off, none⟩ ∧ ∀ i, i < n → w.cell? ⟨b, off + i * 2, none⟩ = some (.string (rkey L i)) ∧ ∃ u, w.cell? ⟨b, off + i * 2 + 1, none⟩ = some u ∧ Rf w u (rvers L i) := by
  obtain ⟨h1, _, h3⟩ := h
  rcases h3 with rfl | h3
  · simp at h1; omega
  · exact h3
/-- the law's own space -/
structure Rs (w : World) (gr : Nat) (L : List LRow) : Prop where
  box : ∃ a k c, w.heap[gr]? = some (.cells #[.slice a k c] 59) ∧ RRow w a k L ∧ (a = none → c = 0)
theorem Rs.later {w wx : World} {gr : Nat} {L : List LRow} (h : Rs w gr L) (hb : Below w.heap.size w wx) : Rs wx gr L := by
  obtain ⟨a, k, c, h1, h2, h3⟩ := h.box
  exact ⟨a, k, c, (hb.block gr (Array.getElem?_eq_some_iff.1 h1).1).trans h1, h2.later hb, h3⟩

/-- a key's versions -/
def ofL : List LRow → ByteArray → List Ver
  | [], _ => []
  | r :: L, s => if r.1.toList = s.toList then r.2 else ofL L s
theorem ofL_none {L : List LRow} {s : ByteArray} (h : ∀ i, i < L.length → ¬ (rkey L i).toList = s.toList) : ofL L s = [] := by
  induction L with
  | nil => rfl
  | cons r L ih =>
    have h0 := h 0 (by simp)
    simp [rkey] at h0
    rw [ofL, if_neg h0]
    exact ih (fun i hi => by have := h (i + 1) (by simpa using hi); simpa [rkey] using this)
theorem ofL_at {L : List LRow} {s : ByteArray} {k : Nat} (hk : k < L.length) (h : ∀ i, i < k → ¬ (rkey L i).toList = s.toList) (he : (rkey L k).toList = s.toList) : ofL L s = rvers L k := by
  induction L generalizing k with
  | nil => simp at hk
  | cons r L ih =>
    cases k with
    | zero =>
      simp [rkey] at he
      rw [ofL, if_pos he]
      rfl
    | succ k =>
      have h0 := h 0 (by omega)
      simp [rkey] at h0
      rw [ofL, if_neg h0, ih (k := k) (by simpa using hk) (fun i hi => by have := h (i + 1) (by omega); simpa [rkey] using this) (by simpa [rkey] using he)]
      simp [rvers]

set_option maxRecDepth 100000 in
set_option maxHeartbeats 2000000 in
theorem of_any (gr : Nat) (L : List LRow) (s : ByteArray) (w : World) (h : Rs w gr L) :
    Calls Try.prog 51 #[.pointer (some ⟨gr, 0, none⟩), .string s] w fun e w' => ∃ u, e = .returned u ∧ Rf w' u (ofL L s) ∧ Below w.heap.size w w' := by
  obtain ⟨a, n, cap, hbox, hr, -⟩ := h.box
  have c0 : w.cell? ⟨gr, 0, none⟩ = some (.slice a n cap) := cell_of_heap hbox rfl
  have HR : Hid (RRow w a n L) := hr
  have hlen : n ≤ 1000000 := hr.2.1
  clear hr h hbox
  go_enter Try.func51, Try.ntmps51
  go_wp2
  go_loopw [12] (fun t wr => ∃ k : Nat, t = .int .i64 (k : Nat) ∧ k ≤ n ∧ Hid (∀ i, i < k → ¬ (rkey L i).toList = s.toList) ∧ Hid (Below w.heap.size w wr)) (fun t _ => n - (intOf t).toNat)
  case atStart => exact ⟨0, rfl, by omega, fun i hi => by omega, Below.refl _ _⟩
  case round =>
    obtain ⟨k, rfl, hk, HK, HB⟩ := hrel
    by_cases hlt : k < n
    · obtain ⟨b, off, rfl, hc⟩ := (HR.out.later HB.out).at (by omega)
      obtain ⟨d0, u, d1, hu⟩ := hc k hlt
      clear hc
      obtain ⟨ua, uk, uc, rfl, hv, hv0⟩ := hu
      have HX : Hid (Below w.heap.size w (wr.alloc (.cells #[.string (rkey L k), .slice ua uk uc] 66))) := HB.out.alloc HB.out.size _
      have HV : Hid (VRow (wr.alloc (.cells #[.string (rkey L k), .slice ua uk uc] 66)) ua uk (rvers L k)) := hv.later ((Below.refl _ _).alloc (Nat.le_refl _) _)
      clear hv
      by_cases he : (rkey L k).toList = s.toList
      · have HE : Hid (ofL L s = rvers L k) := ofL_at (by rw [HR.out.1]; exact hlt) HK.out he
        have hbe : ((rkey L k).toList == s.toList) = true := by simp [he]
        generalize rkey L k = kk at *
        clear he
        go_wp2
        go_ret
        refine ⟨_, rfl, ?_, HX.out⟩
        rw [HE.out]
        exact ⟨ua, uk, uc, rfl, HV.out, hv0⟩
      · have hbe : ((rkey L k).toList == s.toList) = false := by simp [he]
        have HK2 : Hid (∀ i, i < k + 1 → ¬ (rkey L i).toList = s.toList) := fun i hi => by by_cases e : i = k; (rw [e]; exact he); exact HK.out i (by omega)
        generalize rkey L k = kk at *
        clear he
        go_wp2
        go_roundw
        case rel => exact ⟨k + 1, by go_num, by omega, HK2, HX⟩
        case measure => simp [intOf]; omega
    · have HE : Hid (ofL L s = []) := ofL_none (fun i hi => HK.out i (by have := HR.out.1; omega))
      go_wp2
      go_ret
      refine ⟨_, rfl, ?_, HB.out⟩
      rw [HE.out]
      exact ⟨none, 0, 0, rfl, VRow.nil _ _, fun _ => rfl⟩
end Go.Proofs.Ytmahigfamgbhfaa
