/- Texts: what the functions of package octet, and of the law's own answers for it, do with them: contracts. -/
import Derived.Test.YteokhedljfakkaaDoorOctD
import Derived.Lib.AppendStr
namespace Go.Proofs.YteokhedljfakkaaDoor
open Go.RowKit

theorem str_of (s : ByteArray) : ∃ ts : List Nat, s = str ts ∧ (∀ x ∈ ts, x < 256) ∧ ts.length = s.size := by
  refine ⟨s.data.toList.map UInt8.toNat, ?_, ?_, ?_⟩
  · unfold str
    have : (s.data.toList.map UInt8.toNat).map UInt8.ofNat = s.data.toList := by
      rw [List.map_map]
      conv => rhs; rw [← List.map_id s.data.toList]
      apply List.map_congr_left
      intro x _
      simp
    rw [this]
  · intro x hx
    simp only [List.mem_map] at hx
    obtain ⟨y, _, rfl⟩ := hx
    have := y.toNat_lt
    omega
  · rw [List.length_map, Array.length_toList]; rfl
theorem strCells_str (ts : List Nat) (h : ∀ x ∈ ts, x < 256) : Lib.strCells (str ts) = cellsOf ts := by
  unfold Lib.strCells str cellsOf
  simp only [List.map_map]
  apply List.map_congr_left
  intro x hx
  have := h x hx
  simp [UInt8.toNat_ofNat']
  omega

/-- 'append(x, s...)', x the call's own, s a text -/
theorem wp_append_str {w : World} {ops : Array Oper} {rest : List Oper} {o : Oper} {a : Act} {Q : Exit → Act → World → Prop} (hgd : o.guard = none) (s x : Operand)
    (ho : o.op = .call { callee := .builtin .append, args := #[s, x], argTypes := #[46, 9] })
    (base : Nat) (v : Value) (xs : List Nat) (hs : a.eval s = v) (hown : Own w base v xs) (ts : List Nat) (hx : a.eval x = .string (str ts)) (ht : ∀ x ∈ ts, x < 256)
    (hbytes : xs.length + ts.length ≤ 140737488355328) (hbase : base ≤ w.heap.size)
    (h : ∀ v' w', Own w' base v' (xs ++ ts) → Below base w w' → wpList Tryd.prog ops Q rest (a.put o.dst v') w') : wpList Tryd.prog ops Q (o :: rest) a w := by
  obtain ⟨i0, hi, hz0, hz1, hz2⟩ := info_parts Tryd.info_5
  refine Lib.wpList_append_own_string w hgd s x 46 9 ho base 5 i0 Tryd.underlying46 Tryd.underlying9 hi hz0 hz1 hz2 v _ _ hs hown.1 (str ts) hx (by rw [str_size]; unfold maxLen; omega) (by rw [str_size]; omega) hbase ?_
  intro v' w' h1 h2 _
  refine h v' w' ⟨?_, ?_⟩ ((Below.refl _ _).grown h2 hbase hown.block)
  · rw [str_size, strCells_str ts ht, ← cellsOf_append] at h1
    rw [List.length_append]
    exact h1
  · intro y hy
    rcases List.mem_append.1 hy with h3 | h3
    · exact hown.2 y h3
    · exact ht y h3

theorem text_any (a : Option Addr) (n cap : Nat) (bs ts : List Nat) (w : World) (hr : Row w a n bs) (hz : a = none → cap = 0) (hn : n ≤ 100000) (ht : ∀ x ∈ ts, x < 256) (hl : ts.length ≤ 100000) :
    Calls Tryd.prog 75 #[.slice a n cap, .string (str ts)] w fun e w' => ∃ g N, e = .returned (.slice (some ⟨g, 0, none⟩) N N) ∧ Row w' (some ⟨g, 0, none⟩) N (bs ++ (Oct.put ts.length ++ ts)) ∧ N ≤ n + 10 + ts.length ∧ w.heap.size ≤ g ∧ Below w.heap.size w w' := by
  have hlen := hr.1
  have hpl := Oct.putF_len 9 ts.length
  have hsz := str_size ts
  go_enter Tryd.func75, Tryd.ntmps75
  go_wp2_with fail
  refine (copy_any _ _ _ (10 + ts.length) _ _ hr hz (by omega) (by omega)).mono ?_
  rintro e w1 ⟨v1, rfl, ho1, hb1⟩
  go_wp2_with fail
  refine (putNumber_any _ _ ts.length _ _ ho1 hb1.size (by omega) (by omega)).mono ?_
  rintro e w2 ⟨v2, rfl, ho2, hb2⟩
  have hbt := hb1.trans hb2
  have hbd : (bs ++ Oct.put ts.length).length + ts.length ≤ 140737488355328 := by rw [List.length_append]; unfold Oct.put; omega
  have HPL : Hid (_ ∧ _) := hpl
  clear hpl
  go_wp2_with (at_builtin; refine wp_append_str rfl _ _ rfl w.heap.size _ _ rfl ho2 ts rfl ht hbd hbt.size ?_; intro v3 w3 ho3 hb3)
  rw [List.append_assoc] at ho3
  obtain ⟨g, N, cap2, rfl, hN, hg, _, hc2, hm2⟩ := ho3.form (by intro h; have := congrArg List.length h; rw [List.length_append, List.length_append, List.length_nil] at this; unfold Oct.put at this; have := HPL.out; omega)
  have hNl : N ≤ n + 10 + ts.length := by have := HPL.out; rw [hN, List.length_append, List.length_append]; unfold Oct.put; omega
  clear hN
  refine (own_any _ _ _ _ hc2).mono ?_
  rintro e w4 ⟨rfl, hw⟩
  subst w4
  go_wp2
  go_ret
  exact ⟨g, N, rfl, ho3.row, hNl, hg, hbt.trans hb3⟩
end Go.Proofs.YteokhedljfakkaaDoor
