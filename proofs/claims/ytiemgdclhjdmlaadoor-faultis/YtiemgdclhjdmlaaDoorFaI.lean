/- A fault's text; the laws' own wrapping and path: contracts. -/
import Derived.Test.YtiemgdclhjdmlaaDoorFaH
namespace Go.Proofs.YtiemgdclhjdmlaaDoor
open Go.RowKit Go.Extern.Stop Go.Stop Go.Extern

/-- what a number's Error is -/
def told : ByteArray := ⟨#[115, 97, 117, 116, 111, 105, 114, 58, 32, 97, 110, 32, 101, 114, 114, 111, 114]⟩

set_option maxRecDepth 100000 in
theorem error_any (n : Int) (s : ByteArray) (qs : List ByteArray) (p : Value) (w : World) (hg : G w) (hp : Ptr w n (s :: qs) p) (hlen : plen (s :: qs) ≤ 1000000) :
    Calls Tryd.prog 20 #[p] w fun e w' => e = .returned (.string (path (s :: qs) ++ ⟨#[62]⟩ ++ told)) ∧ Below w.heap.size w w' := by
  have HV : Hid (Errv w n (s :: qs) (.iface 37 p)) := by
    obtain ⟨b, u, rfl, h1, h2⟩ := hp
    exact ⟨b, u, rfl, h1, h2⟩
  obtain ⟨b, rfl⟩ : ∃ b, p = .pointer (some ⟨b, 0, none⟩) := by
    obtain ⟨b, u, h, _⟩ := hp
    exact ⟨b, h⟩
  have HG : Hid (G w) := hg
  have hps := path_size (s :: qs)
  have HC : Hid (plen (s :: qs) ≤ 1000000) := hlen
  clear hp hg
  go_enter Tryd.func20, Tryd.ntmps20
  go_wp2_with fail
  refine (path_any n (s :: qs) _ w HG.out HV.out HC.out).mono ?_
  rintro e w1 ⟨rfl, hb1⟩
  have HB1 : Hid (Below w.heap.size w w1) := hb1
  clear hb1
  obtain ⟨J, HJ⟩ : ∃ J, Hid (path (s :: qs) = J) := ⟨path (s :: qs), rfl⟩
  rw [HJ.out] at hps ⊢
  have hJ : J.size ≤ 1000000 := by omega
  clear hps hlen
  have h1 := fun w => run_string_add_sum (P := Tryd.prog) w J ⟨#[62]⟩ (by show J.size + 1 ≤ _; omega)
  have h2 := fun w => run_string_add_sum (P := Tryd.prog) w (J ++ ⟨#[62]⟩) told (by rw [ByteArray.size_append]; show J.size + 1 + 17 ≤ _; omega)
  unfold told at h2
  go_wp2_with fail
  refine (code_any n (s :: qs) _ w1 (HG.out.later HB1.out) (HV.out.later HB1.out)).mono ?_
  rintro e w2 ⟨rfl, hb2⟩
  have HB2 : Hid (Below w.heap.size w w2) := HB1.out.trans (hb2.mono HB1.out.size)
  clear hb2
  go_wp2
  go_ret
  exact ⟨by rw [HJ.out]; rfl, HB2.out⟩

/-- texts, as a slice's elements lie in memory -/
def Strs (w : World) (a : Option Addr) (n : Nat) (ss : List ByteArray) : Prop :=
  ss.length = n ∧ (∀ x ∈ ss, x.size ≤ maxLen) ∧ n ≤ maxLen ∧ (n = 0 ∨ ∃ b off, a = some ⟨b, off, none⟩ ∧ ∀ j x, ss[j]? = some x → w.cell? ⟨b, off + j, none⟩ = some (.string x))

theorem Strs.later {w wx : World} {a : Option Addr} {n : Nat} {ss : List ByteArray} (hr : Strs w a n ss) (hb : Below w.heap.size w wx) : Strs wx a n ss := by
  obtain ⟨h1, h2, h3, h⟩ := hr
  refine ⟨h1, h2, h3, ?_⟩
  rcases h with h | ⟨b, off, h, hc⟩
  · exact .inl h
  · exact .inr ⟨b, off, h, fun i x hi => cell_later hb (hc i x hi)⟩

theorem plen_snoc (ps : List ByteArray) (q : ByteArray) : plen (ps ++ [q]) = plen ps + q.size + 1 := by simp [plen]; omega

set_option maxRecDepth 100000 in
set_option maxHeartbeats 1000000 in
theorem short_any (a : Option Addr) (len cap : Nat) (ss : List ByteArray) (w : World) (hr : Strs w a len ss) :
    Calls Tryd.prog 12 #[.slice a len cap] w fun e w' => ∃ v ps, e = .returned v ∧ OwnV w' w.heap.size 9 v (ps.map .string) ∧ ps.length ≤ 8 ∧ plen ps ≤ 22 * ps.length ∧ Below w.heap.size w w' := by
  obtain ⟨hl, hx, hm, hr⟩ := hr
  unfold maxLen at hm
  go_enter Tryd.func12, Tryd.ntmps12
  go_wp2
  go_loopw [3, 8] (fun o i wr => ∃ (k : Nat) (ps : List ByteArray), k ≤ len ∧ k ≤ 8 ∧ i = .int .i64 k ∧ ps.length = k ∧ plen ps ≤ 22 * k ∧ Hid (OwnV wr w.heap.size 9 o (ps.map .string)) ∧ Hid (Below w.heap.size w wr)) (fun o i wr => len - (intOf i).toNat)
  case atStart => exact ⟨0, [], Nat.zero_le _, Nat.zero_le _, rfl, rfl, by simp [plen], OwnV.nil _ _ _, Below.refl _ _⟩
  case round =>
    obtain ⟨k, ps, hk, hk8, rfl, hp1, hp2, ho, hB⟩ := hrel
    by_cases h0 : k < len
    · obtain ⟨b, off, rfl, hc⟩ : ∃ b off, a = some ⟨b, off, none⟩ ∧ ∀ j x, ss[j]? = some x → w.cell? ⟨b, off + j, none⟩ = some (.string x) := by
        rcases hr with h | h
        · omega
        · exact h
      have hkl : k < ss.length := by omega
      have hc1 : wr.cell? ⟨b, off + k, none⟩ = some (.string ss[k]) := cell_later hB.out (hc k _ (List.getElem?_eq_getElem hkl))
      have hxs := hx ss[k] (List.getElem_mem hkl)
      unfold maxLen at hxs
      generalize ss[k] = x at hc1 hxs
      clear hr hc hx
      by_cases h8 : k < 8
      · have hsz := hB.out.size
        by_cases h20 : 20 < x.size
        · have hy : (x.extract 0 20).size = 20 := by rw [ByteArray.size_extract]; omega
          have h1 := fun w => run_string_add_sum (P := Tryd.prog) w ⟨#[112]⟩ (x.extract 0 20) (by rw [hy]; show 1 + 20 ≤ _; omega)
          have HT : Hid ((ps.map Value.string).length = k) := by unfold Hid; rw [List.length_map]; exact hp1
          have hsx : (⟨#[112]⟩ ++ x.extract 0 20 : ByteArray).size = 21 := by rw [ByteArray.size_append, hy]; rfl
          have HX : Hid ((⟨#[112]⟩ ++ x.extract 0 20 : ByteArray).size = 21) := hsx
          clear hy hsx
          go_wp2_with (at_builtin; refine wp_append_one 22 9 _ 16 Tryd.underlying22 Try.info9 rfl rfl _ _ rfl w.heap.size _ _ rfl (ho.out.alloc _) _ _ (.string (⟨#[112]⟩ ++ x.extract 0 20)) rfl (by simp) rfl (by rw [HT.out]; omega) (by rw [HT.out]; omega) (by simp; omega) ?_; intro v2 w2 ho2 hb2)
          go_roundw
          case rel => exact ⟨k + 1, ps ++ [⟨#[112]⟩ ++ x.extract 0 20], by omega, by omega, by go_num, by simp; exact hp1, by rw [plen_snoc, HX.out]; omega, by unfold Hid; rw [List.map_append]; exact ho2, (hB.out.alloc hsz _).trans hb2⟩
          case measure => simp [intOf]; omega
        · have h1 := fun w => run_string_add_sum (P := Tryd.prog) w ⟨#[112]⟩ x (by show 1 + x.size ≤ _; omega)
          have HT : Hid ((ps.map Value.string).length = k) := by unfold Hid; rw [List.length_map]; exact hp1
          have hsx : (⟨#[112]⟩ ++ x : ByteArray).size = 1 + x.size := by rw [ByteArray.size_append]; rfl
          go_wp2_with (at_builtin; refine wp_append_one 22 9 _ 16 Tryd.underlying22 Try.info9 rfl rfl _ _ rfl w.heap.size _ _ rfl (ho.out.alloc _) _ _ (.string (⟨#[112]⟩ ++ x)) rfl (by simp) rfl (by rw [HT.out]; omega) (by rw [HT.out]; omega) (by simp; omega) ?_; intro v2 w2 ho2 hb2)
          go_roundw
          case rel => exact ⟨k + 1, ps ++ [⟨#[112]⟩ ++ x], by omega, by omega, by go_num, by simp; exact hp1, by rw [plen_snoc, hsx]; omega, by unfold Hid; rw [List.map_append]; exact ho2, (hB.out.alloc hsz _).trans hb2⟩
          case measure => simp [intOf]; omega
      · have : k = 8 := by omega
        subst this
        go_wp2
        go_ret
        exact ⟨_, ps, rfl, ho.out, by omega, by omega, hB.out⟩
    · go_wp2
      go_ret
      exact ⟨_, ps, rfl, ho.out, by omega, by omega, hB.out⟩
end Go.Proofs.YtiemgdclhjdmlaaDoor
