/- Keys that came in, made few and short; a copy of keys. -/
import Derived.Test.YtbhohedkgeokgaaLkC
namespace Go.Proofs.Ytbhohedkgeokgaa
open Go.RowKit
set_option linter.unusedVariables false
set_option linter.unusedSimpArgs false

/-- texts that came in, as a slice's elements lie in memory -/
def Strs (w : World) (a : Option Addr) (n : Nat) (S : Nat → ByteArray) : Prop :=
  n ≤ maxLen ∧ (n = 0 ∨ ∃ b off, a = some ⟨b, off, none⟩ ∧ ∀ i, i < n → (S i).size ≤ maxLen ∧ w.cell? ⟨b, off + i, none⟩ = some (.string (S i)))
theorem Strs.later {w wx : World} {a : Option Addr} {n : Nat} {S : Nat → ByteArray} (h : Strs w a n S) (hb : Below w.heap.size w wx) : Strs wx a n S := by
  refine ⟨h.1, ?_⟩
  rcases h.2 with h | ⟨b, off, e, hc⟩
  · exact .inl h
  · exact .inr ⟨b, off, e, fun i hi => ⟨(hc i hi).1, cell_later hb (hc i hi).2⟩⟩
theorem Strs.at {w : World} {a : Option Addr} {n : Nat} {S : Nat → ByteArray} (h : Strs w a n S) (hn : 0 < n) : ∃ b off, a = some ⟨b, off, none⟩ ∧ ∀ i, i < n → (S i).size ≤ maxLen ∧ w.cell? ⟨b, off + i, none⟩ = some (.string (S i)) := by
  rcases h.2 with h | h
  · omega
  · exact h
def cut40 (s : ByteArray) : ByteArray := if s.size ≤ 40 then s else s.extract 0 40
theorem cut40_size (s : ByteArray) : (cut40 s).size ≤ 40 := by
  unfold cut40
  split
  · assumption
  · simp [ByteArray.size_extract]; omega
def fewL (n : Nat) (S : Nat → ByteArray) : List ByteArray := (List.range (min n 6)).map fun i => cut40 (S i)

set_option maxRecDepth 100000 in
set_option maxHeartbeats 2000000 in
theorem few_any (a : Option Addr) (n c : Nat) (S : Nat → ByteArray) (w : World) (h : Strs w a n S) :
    Calls Try.prog 19 #[.slice a n c] w fun e w' => (∃ v, e = .returned v ∧ SR w' v (fewL n S)) ∧ Below w.heap.size w w' := by
  have hn : n ≤ maxLen := h.1
  have HS : Hid (Strs w a n S) := h
  clear h
  unfold maxLen at hn
  go_enter Try.func19, Try.ntmps19
  go_wp2
  go_loopw [3, 8] (fun v t wr => ∃ k : Nat, t = .int .i64 (k : Nat) ∧ k ≤ n ∧ k ≤ 6 ∧ Hid (OwnV wr w.heap.size 9 v ((fewL k S).map Value.string)) ∧ Hid (Below w.heap.size w wr)) (fun _ t _ => n - (intOf t).toNat)
  case atStart => exact ⟨0, rfl, by omega, by omega, OwnV.nil _ _ _, Below.refl _ _⟩
  case round =>
    obtain ⟨k, rfl, hk, hk6, HO, HB⟩ := hrel
    have fin : ∀ v wr, Hid (OwnV wr w.heap.size 9 v ((fewL k S).map Value.string)) → (k = n ∨ k = 6) → SR wr v (fewL n S) := by
      intro v wr ho hkk
      have e : fewL k S = fewL n S := by
        unfold fewL
        rw [show min k 6 = min n 6 by omega]
      rw [e] at ho
      refine ⟨?_, by simp [fewL]; omega, ?_⟩
      · have := ho.out
        unfold OwnV at this
        rw [List.length_map] at this
        obtain ⟨q1, q2⟩ := this
        refine ⟨q1, ?_⟩
        rcases q2 with q2 | ⟨g, cap, cur, hv, hg, hx⟩
        · exact .inl q2
        · exact .inr ⟨g, cap, cur, hv, Nat.zero_le _, hx⟩
      · intro s hs
        simp only [fewL, List.mem_map] at hs
        obtain ⟨i, -, rfl⟩ := hs
        exact cut40_size _
    have FIN : Hid (∀ v wr, Hid (OwnV wr w.heap.size 9 v ((fewL k S).map Value.string)) → (k = n ∨ k = 6) → SR wr v (fewL n S)) := fin
    clear fin
    by_cases hlt : k < n
    · by_cases h6 : 6 ≤ k
      · obtain ⟨b, off, rfl, hc⟩ := (HS.out.later HB.out).at (by omega)
        obtain ⟨hsz, c0⟩ := hc k hlt
        clear hc
        generalize S k = x at c0 hsz
        go_wp2
        go_ret
        exact ⟨⟨_, rfl, FIN.out _ _ HO (.inr (by omega))⟩, HB.out⟩
      · obtain ⟨b, off, rfl, hc⟩ := (HS.out.later HB.out).at (by omega)
        obtain ⟨hsz, c0⟩ := hc k hlt
        clear hc
        have ex : ((fewL k S).map Value.string) ++ [.string (cut40 (S k))] = (fewL (k + 1) S).map Value.string := by
          unfold fewL
          rw [show min k 6 = k by omega, show min (k + 1) 6 = k + 1 by omega, List.range_succ]
          simp
        have HX : Hid (((fewL k S).map Value.string) ++ [.string (cut40 (S k))] = (fewL (k + 1) S).map Value.string) := ex
        have hll : ((fewL k S).map Value.string).length ≤ 6 := by simp [fewL]; omega
        clear ex
        by_cases h40 : (S k).size ≤ 40
        · have e40 : cut40 (S k) = S k := by unfold cut40; rw [if_pos h40]
          rw [e40] at HX
          clear e40
          generalize S k = x at c0 hsz HX h40
          go_wp2_with (at_builtin; refine wp_append_one 32 9 _ 16 Try.underlying32 Try.info_9 rfl rfl _ _ rfl w.heap.size _ _ rfl (HO.out.alloc _) _ _ (.string x) rfl (by simp) rfl (by omega) (by omega) (by have := HB.out.size; simp; omega) ?_; intro v2 w2 ho2 hb2)
          go_roundw
          case rel => exact ⟨k + 1, by go_num, by omega, by omega, by rw [HX.out] at ho2; exact ho2, (HB.out.alloc HB.out.size _).trans hb2⟩
          case measure => simp [intOf]; omega
        · have e40 : cut40 (S k) = (S k).extract 0 40 := by unfold cut40; rw [if_neg h40]
          rw [e40] at HX
          clear e40
          generalize S k = x at c0 hsz HX h40
          go_wp2_with (at_builtin; refine wp_append_one 32 9 _ 16 Try.underlying32 Try.info_9 rfl rfl _ _ rfl w.heap.size _ _ rfl (HO.out.alloc _) _ _ (.string (x.extract 0 40)) rfl (by simp) rfl (by omega) (by omega) (by have := HB.out.size; simp; omega) ?_; intro v2 w2 ho2 hb2)
          go_roundw
          case rel => exact ⟨k + 1, by go_num, by omega, by omega, by rw [HX.out] at ho2; exact ho2, (HB.out.alloc HB.out.size _).trans hb2⟩
          case measure => simp [intOf]; omega
    · go_wp2
      go_ret
      exact ⟨⟨_, rfl, FIN.out _ _ HO (.inl (by omega))⟩, HB.out⟩

theorem SR.news {w : World} {b off c : Nat} {l : List ByteArray} (h : SR w (.slice (some ⟨b, off, none⟩) l.length c) l) : ∀ j u, (l.map Value.string)[j]? = some u → w.cell? ((⟨b, off, none⟩ : Addr).add j) = some u := by
  intro j u hj
  have hlt : j < l.length := by have := (List.getElem?_eq_some_iff.1 hj).1; simpa using this
  obtain ⟨b', off', e, hc⟩ := h.at (by omega)
  simp only [Option.some.injEq, Addr.mk.injEq] at e
  obtain ⟨rfl, rfl, _⟩ := e
  have := hc j hlt
  rw [Addr.add_lit, this, ← hj]
  simp [hlt]

theorem SR.spot {w : World} {ad : Addr} {c : Nat} {l : List ByteArray} (h : SR w (.slice (some ad) l.length c) l) : ∃ b, ad = ⟨b, 0, none⟩ := by
  rcases h.own.2 with ⟨e, _⟩ | ⟨g, cap, cur, e, _⟩
  · simp at e
  · simp only [Value.slice.injEq, Option.some.injEq] at e
    exact ⟨g, e.1⟩

theorem clone_any (v : Value) (l : List ByteArray) (w : World) (h : SR w v l) :
    Calls Try.prog 30 #[v] w fun e w' => (∃ v', e = .returned v' ∧ SR w' v' l) ∧ Below w.heap.size w w' := by
  obtain ⟨a, c, rfl, h1, h2, h3⟩ := h.slice
  have hnil : ∀ (w : World) (a : Option Addr) (l c : Nat), (binOp .eql 32 (.slice a l c) (.slice none 0 0)).run Try.prog w = .ok (.bool a.isNone) w := fun w a l c => Lib.run_eql_slice_nil w 32 9 a l c 0 0 Try.underlying32
  cases a with
  | none =>
    obtain ⟨rfl, rfl⟩ := h3 rfl
    go_enter Try.func30, Try.ntmps30
    go_wp2
    go_ret
    exact ⟨⟨_, rfl, SR.nil _⟩, Below.refl _ _⟩
  | some ad =>
    obtain ⟨b, rfl⟩ := h.spot
    have hb : Below w.heap.size w (w.alloc (.cells #[] 9)) := (Below.refl _ _).alloc (Nat.le_refl _) _
    have HN : Hid (∀ j u, (l.map Value.string)[j]? = some u → (w.alloc (.cells #[] 9)).cell? ((⟨b, 0, none⟩ : Addr).add j) = some u) := (h.later hb).news
    have HO : Hid ((w.alloc (.cells #[] 9)).ownsRow w.heap.size 9 1 (.slice (some ⟨w.heap.size, 0, none⟩) 0 0) 0 []) := World.ownsRow_made w #[] 0 (Nat.le_refl _) (Nat.zero_le _) rfl
    have HB : Hid (Below w.heap.size w (w.alloc (.cells #[] 9))) := hb
    have hf := h.few
    have HF : Hid (∀ s ∈ l, s.size ≤ 40) := h.small
    obtain ⟨i0, hi, hz0, hz1, hz2⟩ := info_parts Try.info_9
    have HI : Hid (Try.prog.info? 9 = some i0 ∧ i0.zero = some (.string ⟨#[]⟩) ∧ i0.size = 1 ∧ i0.bytes = 16) := ⟨hi, hz0, hz1, hz2⟩
    clear h hb hi hz0 hz1 hz2
    go_enter Try.func30, Try.ntmps30
    go_wp2_with (at_builtin; refine wpList_append_own _ rfl _ _ 32 rfl w.heap.size 9 i0 _ 1 16 Try.underlying32 HI.out.1 HI.out.2.1 HI.out.2.2.1 HI.out.2.2.2 rfl (by decide) _ 0 [] rfl HO.out _ l.length c (l.map Value.string) rfl (by simp) HN.out (by simp [Value.oneCell']) (by unfold maxLen; omega) (by omega) (by simp) ?_; intro v2 w2 ho2 hg2 _)
    go_ret
    refine ⟨⟨_, rfl, ?_, hf, HF.out⟩, HB.out.grown hg2 (by simp) (fun k hk => (World.ownsRow.lt HO.out k hk).1)⟩
    rw [Nat.zero_add, List.nil_append] at ho2
    obtain ⟨q1, q2⟩ := ho2
    refine ⟨q1, ?_⟩
    rcases q2 with q2 | ⟨g, cap, cur, hv, hg, hx⟩
    · exact .inl q2
    · exact .inr ⟨g, cap, cur, hv, Nat.zero_le _, hx⟩
end Go.Proofs.Ytbhohedkgeokgaa
