/- rightKeys: keys that may be, each once: a contract. -/
import Derived.Test.YtlefaicdcomkjaaEnF
import Derived.Maps.OwnSet
import Derived.Maps.Views
import Derived.StringKeys
import Derived.Deep.Cut
namespace Go.Proofs.Ytlefaicdcomkjaa
open Go Go.RowKit Go.Maps
set_option linter.unusedVariables false
set_option linter.unusedSimpArgs false

abbrev klit (s : ByteArray) : Lit := .string s.data.toList
abbrev Ru : Value → Option (DataW Unit × List MemPlace) := unitElem
theorem law9 : Keyed Try.prog 9 := string_keyed Try.underlying9
theorem zero110 (w : World) : (zeroValue 122).run Try.prog w = .ok (.agg #[]) w := by kernel_rfl
theorem made109 (w : World) : (Instr.makeMap 121 none).run Try.prog w = .ok (.map (some w.heap.size)) (w.alloc (.map #[] 0)) := rfl
theorem key_look {w : World} {bm n : Nat} {D : DataW Unit} (h : w.ownsMap Try.prog 9 Ru bm n D) (s : ByteArray) (hs : s.size ≤ maxLen) : (Instr.lookup 121 (.map (some bm)) (.string s) true).run Try.prog w = .ok (.tuple #[.agg #[], .bool (has D (klit s))]) w := by
  obtain ⟨v, ps, hrun, hv⟩ := h.look_ok law9 Try.underlying121 (zero110 w) (zd := .agg []) (zp := []) unitElem_mk (WideMaps.keyOf_string_mk Try.underlying9 hs)
  obtain ⟨rfl, _⟩ := unitElem_inv hv
  exact hrun
theorem bytes_data {a b : ByteArray} (h : a.data.toList = b.data.toList) : a = b := by
  obtain ⟨⟨a⟩⟩ := a
  obtain ⟨⟨b⟩⟩ := b
  simp at h
  rw [h]
/-- what was seen -/
def Seen (D : DataW Unit) (ks : List ByteArray) (k : Nat) : Prop := ∀ s : ByteArray, has D (klit s) = true ↔ ∃ j, j < k ∧ ks[j]? = some s
theorem seen_put {D : DataW Unit} {ks : List ByteArray} {k : Nat} {s : ByteArray} (hD : IsMap D) (h : Seen D ks k) (hs : ks[k]? = some s) : Seen (D.put (klit s) (.agg [])) ks (k + 1) := by
  intro t
  by_cases e : t = s
  · subst e
    exact ⟨fun _ => ⟨k, by omega, hs⟩, fun _ => has_put_same (k := klit t) hD (show WideAt.IsKeyLit (Lit.string t.data.toList) from trivial) _⟩
  · rw [has_put_other (by simpa [klit] using fun e2 => e (bytes_data (by simpa using e2))), h t]
    constructor
    · rintro ⟨j, hj, hy⟩
      exact ⟨j, by omega, hy⟩
    · rintro ⟨j, hj, hy⟩
      by_cases hjk : j = k
      · subst hjk
        rw [hs] at hy
        simp only [Option.some.injEq] at hy
        exact absurd hy.symm e
      · exact ⟨j, by omega, hy⟩
set_option maxRecDepth 100000 in
set_option maxHeartbeats 4000000 in
theorem rightKeys_any (b1 : Nat) (v : Value) (ks : List ByteArray) (w : World) (h : OwnV w b1 9 v (ks.map Value.string)) (hl : ks.length ≤ 1000) (hs : ∀ x ∈ ks, x.size ≤ maxLen) :
    Calls Try.prog 63 #[v] w fun e w' => e = .returned (.bool (goodB [] ks)) ∧ Below w.heap.size w w' := by
  obtain ⟨a, c, rfl, -, -, hn0, ha⟩ := h.shape
  simp only [List.length_map]
  have HA : Hid (∀ x, a = some x → ∃ g, x = ⟨g, 0, none⟩ ∧ b1 ≤ g ∧ g < w.heap.size ∧ ∀ j u, (ks.map Value.string)[j]? = some u → w.cell? ⟨g, j, none⟩ = some u) := ha
  have HA0 : Hid (a = none → ks = []) := fun e => by simpa using (hn0 e).1
  have HS : Hid (∀ x ∈ ks, x.size ≤ maxLen) := hs
  have HM0 : Hid ((w.alloc (.map #[] 0)).ownsMap Try.prog 9 Ru w.heap.size 0 (.map [])) := World.ownsMap_made w Try.prog 9 Ru
  have HB0 : Hid (Below w.heap.size w (w.alloc (.map #[] 0))) := (Below.refl _ _).alloc (Nat.le_refl _) _
  have hmk := made109
  clear h hn0 ha hs
  go_enter Try.func63, Try.ntmps63
  go_wp2
  clear hmk
  generalize hw0 : w.alloc (.map #[] 0) = w0 at *
  clear hw0
  generalize hp : w.heap.size = p at *
  go_loopw [11] (fun t wr => ∃ (k : Nat) (D : DataW Unit), t = .int .i64 (k : Nat) ∧ k ≤ ks.length ∧ Hid (wr.ownsMap Try.prog 9 Ru p k D) ∧ Hid (Seen D ks k) ∧ Hid (GoodK ks k) ∧ Hid (Below p w wr)) (fun t _ => ks.length - (intOf t).toNat)
  case atStart => exact ⟨0, _, rfl, by omega, HM0, (fun s => by simp [has_eq]), (fun i x hi => by omega), HB0⟩
  case round =>
    obtain ⟨k, D, rfl, hk, HM, HSE, HG, HW⟩ := hrel
    by_cases hlt : k < ks.length
    · obtain ⟨x, rfl⟩ : ∃ x, a = some x := by
        cases a with
        | none => have := HA0.out rfl; subst this; simp at hlt
        | some x => exact ⟨x, rfl⟩
      obtain ⟨ga, rfl, -, hga, hca⟩ := HA.out x rfl
      have hr : ks[k]? = some ks[k] := List.getElem?_eq_getElem hlt
      have hmem : ks[k] ∈ ks := List.getElem_mem hlt
      have hx : (ks.map Value.string)[k]? = some (.string ks[k]) := by rw [List.getElem?_map, hr]; rfl
      have d0 := (HW.out.cell (p := ⟨ga, k, none⟩) hga).trans (hca k _ hx)
      generalize ks[k] = s at d0 hr hmem
      have HR : Hid (ks[k]? = some s) := hr
      have hsz := HS.out s hmem
      clear hx hca hga hr hmem
      have hlk := key_look HM.out s hsz
      have HX : Hid (Below wr.heap.size wr (wr.alloc (.cells #[] 122))) := (Below.refl _ _).alloc (Nat.le_refl _) _
      have HWX : Hid (Below p w (wr.alloc (.cells #[] 122))) := HW.out.alloc (by have := HW.out.size; omega) _
      cases htw : has D (klit s)
      · rw [htw] at hlk
        have HNEW : Hid (∀ j y, j < k → ks[j]? = some y → y ≠ s) := fun j y hj hy e => by
          have := (HSE.out s).2 ⟨j, hj, by rw [← e]; exact hy⟩
          rw [htw] at this
          cases this
        have hkr := kright_any s (wr.alloc (.cells #[] 122)) hsz
        clear htw
        go_wp2_with fail
        refine hkr.mono ?_
        clear hkr
        rintro e w5 ⟨rfl, hw5⟩
        subst hw5
        cases hri : right s
        · have HE : Hid (goodB [] ks = false) := goodB_wrong HR.out hri
          clear hri
          go_wp2
          go_ret
          exact ⟨by rw [HE.out]; rfl, by rw [hp]; exact HWX.out⟩
        · have HG2 : Hid (GoodK ks (k + 1)) := HG.out.next HR.out hri HNEW.out
          clear hri
          generalize hwx : wr.alloc (.cells #[] 122) = wx at *
          have hmx : wx.ownsMap Try.prog 9 Ru p k D := by rw [← hwx]; exact HM.out.alloc _
          clear hwx hlk HM HX
          obtain ⟨w6, hst, hown6, hturn6⟩ := hmx.store law9 Try.underlying121 (by unfold maxLen; omega) (WideMaps.keyOf_string_mk Try.underlying9 hsz) (val := .agg #[]) unitElem_mk
          have HM6 : Hid (w6.ownsMap Try.prog 9 Ru p (k + 1) (D.put (klit s) (.agg []))) := hown6
          have HW6 : Hid (Below p w w6) := HWX.out.grown hturn6.grown (by have := HWX.out.size; omega) (fun q hq => by simp only [Option.some.injEq] at hq; omega)
          have HS6 : Hid (Seen (D.put (klit s) (.agg [])) ks (k + 1)) := seen_put hmx.isMap HSE.out HR.out
          clear hown6 hturn6 hmx
          go_wp2
          go_roundw
          case rel => exact ⟨k + 1, _, by go_num, by omega, HM6, HS6, HG2, HW6⟩
          case measure => simp [intOf]; omega
      · rw [htw] at hlk
        have HE : Hid (goodB [] ks = false) := by
          obtain ⟨j, hj, hy⟩ := (HSE.out s).1 htw
          exact goodB_twice HR.out hj hy
        clear htw
        go_wp2
        go_ret
        exact ⟨by rw [HE.out]; rfl, by rw [hp]; exact HWX.out⟩
    · have hk2 : k = ks.length := by omega
      subst hk2
      have HE : Hid (goodB [] ks = true) := goodB_all HG.out
      go_wp2
      go_ret
      exact ⟨by rw [HE.out]; rfl, by rw [hp]; exact HW.out⟩
end Go.Proofs.Ytlefaicdcomkjaa
