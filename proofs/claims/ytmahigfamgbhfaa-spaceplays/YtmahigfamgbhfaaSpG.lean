/- A map that is gone over, and stored to at a key that is there: who is still to come stays. -/
import Derived.Test.YtmahigfamgbhfaaSpD
namespace Go.Proofs.Ytmahigfamgbhfaa
open Go.RowKit Go.Maps
open Go.WideElems (Fit rd rg rd_key rd_val rg_of rd_mk)

theorem setBlock_inj {w : World} {b : Nat} {o o' : Obj} {es : Array MapEntry} {clock : Nat} (hb : w.heap[b]? = some (.map es clock)) (h : ChangeMaps.setBlock w b o = ChangeMaps.setBlock w b o') : o = o' := by
  have h1 := ChangeMaps.heap_setBlock_same hb o
  have h2 := ChangeMaps.heap_setBlock_same hb o'
  rw [h, h2] at h1
  exact (Option.some.inj h1).symm
theorem born_set {l : List MapEntry} {j : Nat} {e0 : MapEntry} (h : l[j]? = some e0) (key val : Value) : (l.set j { e0 with key := key, val := val }).map (·.born) = l.map (·.born) := by
  apply List.ext_getElem?
  intro i
  rw [List.getElem?_map, List.getElem?_map, List.getElem?_set]
  by_cases e : j = i
  · subst e
    have hj := (List.getElem?_eq_some_iff.1 h).1
    rw [List.getElem?_eq_getElem hj] at h
    simp [hj, Option.some.inj h]
  · simp [e]
theorem left_length (a : Array MapEntry) (seen : Array Nat) : (leftOf a seen).size = ((a.toList.map (·.born)).filter fun b => !seen.contains b).length := by
  unfold leftOf
  rw [← Array.length_toList, Array.toList_filter, List.filter_map, List.length_map]
  rfl

theorem ranges_store {w : World} {b r n : Nat} {D : DataW Value} {left : Lit → Bool} {cnt : Nat} (h : w.ranges Try.prog 9 Rv b r n D left cnt) (hn : n < maxLen) (s : ByteArray) (hs : s.size ≤ maxLen) (hhas : has D (klit s) = true) (val : Value) :
    ∃ w', (Instr.mapUpdate 83 (.map (some b)) (.string s) val).run Try.prog w = .ok () w' ∧ w'.ranges Try.prog 9 Rv b r n (D.put (klit s) (.held val)) left cnt ∧ w.mapTurned w' b := by
  have hne := h.ne
  have hkey : keyOf Try.prog 9 (.string s) = some (klit s) := WideMaps.keyOf_string_mk Try.underlying9 hs
  obtain ⟨es, clock, since, seen, c0, hb, F, hsz, rfl, hr, hold, rfl, hl1, hl2, hsc, hsk⟩ := h
  have K := law9
  rcases K.find w hkey es.toList F.keys with ⟨h1, h2⟩ | ⟨j, e0, h1, h2, h3⟩
  · exfalso
    rw [has_eq, List.any_eq_true] at hhas
    obtain ⟨p, hp, hsame⟩ := hhas
    obtain ⟨x, hx, rfl⟩ := List.mem_map.1 (mem_sorted.1 hp)
    obtain ⟨y, hy⟩ := F.reads x hx
    have hk := rd_key hy
    rw [rg_of hy] at hsame
    have : y.1 = klit s := by
      by_cases e : y.1 = klit s
      · exact e
      · rw [sameKey_ne e] at hsame; cases hsame
    rw [this] at hk
    exact h2 x hx (K.inj hk hkey)
  · have hj : es[j]? = some e0 := by simpa using h2
    have hlist : (es.modify j (fun e' => { e' with key := .string s, val := val })).toList = es.toList.set j { e0 with key := .string s, val := val } := by rw [Array.toList_modify, ChangeMaps.modify_eq_set _ _ _ _ h2]
    have hrun : (Instr.mapUpdate 83 (.map (some b)) (.string s) val).run Try.prog w = .ok () (ChangeMaps.setBlock w b (.map (es.modify j (fun e' => { e' with key := .string s, val := val })) clock)) := by
      simp [Instr.mapUpdate, run_underlying Try.underlying83, MapKept.run_getObj_map hb, K.check w false hkey, h1, hj, h3, K.stays w hkey, MapKept.run_setObj_map _ hb, Result.andThen, ChangeMaps.setBlock]
    obtain ⟨es', clock', hrun', F', hput, -, -, hwho⟩ := fit_store (R' := Rv) K Try.underlying83 hb F (Nat.lt_of_le_of_lt hsz hn) (fun _ _ _ _ hz => hz) hkey (yv := (.held val, [])) rfl
    have e1 : Obj.map es' clock' = Obj.map (es.modify j (fun e' => { e' with key := .string s, val := val })) clock := by
      rw [hrun] at hrun'
      simp only [Result.ok.injEq, true_and] at hrun'
      exact (setBlock_inj hb hrun').symm
    simp only [Obj.map.injEq] at e1
    obtain ⟨rfl, rfl⟩ := e1
    have hborn : (es.modify j (fun e' => { e' with key := .string s, val := val })).toList.map (·.born) = es.toList.map (·.born) := by rw [hlist]; exact born_set h2 _ _
    have hrg0 : (rg Try.prog 9 Rv e0).1 = klit s := by
      have : rd Try.prog 9 Rv e0 = some (klit s, .held e0.val) := by
        have := rd_mk (P := Try.prog) (k := 9) (R := Rv) (born := e0.born) hkey (show Rv e0.val = some (.held e0.val, []) from rfl)
        rw [← h3] at this
        exact this
      rw [rg_of this]
    have hrg1 : (rg Try.prog 9 Rv { e0 with key := .string s, val := val }).1 = klit s := by
      rw [rg_of (rd_mk (P := Try.prog) (k := 9) (R := Rv) (born := e0.born) hkey (show Rv val = some (.held val, []) from rfl))]
    have he0 : e0 ∈ es.toList := List.mem_of_getElem? h2
    have hjl := (List.getElem?_eq_some_iff.1 h2).1
    refine ⟨_, hrun, ⟨_, _, since, seen, c0, ChangeMaps.heap_setBlock_same hb _, F', ?_, by rw [DataW.put_eq, hput], (ChangeMaps.heap_setBlock_other hb _ hne).trans hr, ?_, ?_, ?_, ?_, hsc, hsk⟩, ⟨es, _, _, _, hb, rfl⟩⟩
    · simpa using hsz
    · intro x hx
      have hm : x.born ∈ (es.modify j (fun e' => { e' with key := .string s, val := val })).toList.map (·.born) := List.mem_map.2 ⟨x, hx, rfl⟩
      rw [hborn] at hm
      obtain ⟨y, hy, e⟩ := List.mem_map.1 hm
      rw [← e]
      exact hold y hy
    · rw [left_length, left_length, hborn]
    · intro x hx
      rw [hlist] at hx
      rcases List.mem_or_eq_of_mem_set hx with hx | rfl
      · exact hl1 x hx
      · rw [hrg1, ← hrg0]
        exact hl1 e0 he0
    · intro kl hkl
      obtain ⟨x, hx, hk⟩ := hl2 kl hkl
      obtain ⟨i, hi, rfl⟩ := List.getElem_of_mem hx
      by_cases e : i = j
      · subst e
        refine ⟨{ e0 with key := .string s, val := val }, ?_, ?_⟩
        · rw [hlist]
          exact List.mem_set hjl _
        · rw [hrg1, ← hrg0, ← hk]
          rw [List.getElem?_eq_getElem hi] at h2
          rw [Option.some.inj h2]
      · refine ⟨es.toList[i], ?_, hk⟩
        rw [hlist]
        refine List.mem_iff_getElem.2 ⟨i, by simpa using hi, ?_⟩
        rw [List.getElem_set_ne (fun e' => e e'.symm)]
end Go.Proofs.Ytmahigfamgbhfaa
