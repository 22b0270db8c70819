/- The document's learner: rows, as they came; what they say; its memory; a contract of Val. -/
import Derived.Test.YtfibjbjheilpfaaLeD
namespace Go.Proofs.Ytfibjbjheilpfaa
open Go Go.RowKit
set_option linter.unusedVariables false
set_option linter.unusedSimpArgs false

abbrev Ro := Int × ByteArray
def fL (L : List Ro) (s : Int) : Option ByteArray := (L.find? fun r => decide (r.1 = s)).map (·.2)
def chL (L : List Ro) : Ch := fun i => fL L (i : Nat)
def OkL (L : List Ro) : Prop := ∀ r ∈ L, 0 ≤ r.1 ∧ r.1 < 400
theorem fL_none {L : List Ro} {s : Int} (h : ∀ (j : Nat) r, L[j]? = some r → r.1 ≠ s) : fL L s = none := by
  unfold fL
  rw [List.find?_eq_none.2, Option.map_none]
  intro x hx
  obtain ⟨j, hj⟩ := List.getElem?_of_mem hx
  simpa using h j x hj
theorem fL_first {L : List Ro} {s : Int} {k : Nat} {r : Ro} (h : ∀ (j : Nat) r, j < k → L[j]? = some r → r.1 ≠ s) (hr : L[k]? = some r) (hs : r.1 = s) : fL L s = some r.2 := by
  unfold fL
  induction L generalizing k with
  | nil => simp at hr
  | cons x L ih =>
    rw [List.find?_cons]
    cases k with
    | zero => simp at hr; subst hr; simp [hs]
    | succ k =>
      have h0 := h 0 x (by omega) rfl
      simp only [decide_eq_true_eq, h0, decide_false]
      exact ih (k := k) (fun j r hj hr => h (j + 1) r (by omega) hr) (by simpa using hr)
theorem fL_snoc (L : List Ro) (x : Ro) (s : Int) : fL (L ++ [x]) s = (fL L s).or (if x.1 = s then some x.2 else none) := by
  unfold fL
  rw [List.find?_append, Option.map_or]
  congr 1
  by_cases h : x.1 = s <;> simp [h]
theorem fL_in {L : List Ro} (h : OkL L) {s : Int} (hs : s < 0 ∨ 400 ≤ s) : fL L s = none := fL_none fun j r hr e => by
  have := h r (List.mem_of_getElem? hr)
  omega
theorem chL_snoc {L : List Ro} {i : Nat} {v : ByteArray} (h : hasC (chL L) i = false) : chL (L ++ [(((i : Nat) : Int), v)]) = setC (chL L) i v := by
  funext k
  show fL (L ++ [(((i : Nat) : Int), v)]) (k : Nat) = _
  rw [fL_snoc]
  unfold setC
  by_cases e : k = i
  · subst e
    have : fL L (k : Nat) = none := by simpa [hasC, chL] using h
    rw [this, if_pos rfl, if_pos rfl]
    rfl
  · rw [if_neg (by omega), if_neg e]
    show (fL L (k : Nat)).or none = fL L (k : Nat)
    simp
/-- the greatest slot and one -/
def topL (L : List Ro) : Int := L.foldl (fun n r => if n ≤ r.1 then r.1 + 1 else n) 0
theorem topL_snoc (L : List Ro) (x : Ro) : topL (L ++ [x]) = if topL L ≤ x.1 then x.1 + 1 else topL L := by
  unfold topL
  rw [List.foldl_append]
  rfl
theorem top_fold : ∀ (L : List Ro) (n : Int), OkL L → n ≤ 400 → n ≤ L.foldl (fun n r => if n ≤ r.1 then r.1 + 1 else n) n ∧ L.foldl (fun n r => if n ≤ r.1 then r.1 + 1 else n) n ≤ 400 ∧ (∀ r ∈ L, r.1 < L.foldl (fun n r => if n ≤ r.1 then r.1 + 1 else n) n) ∧
    (L.foldl (fun n r => if n ≤ r.1 then r.1 + 1 else n) n = n ∨ ∃ r ∈ L, r.1 = L.foldl (fun n r => if n ≤ r.1 then r.1 + 1 else n) n - 1)
  | [], n, _, h => ⟨Int.le_refl _, h, by simp, .inl rfl⟩
  | x :: L, n, hL, h => by
    have hx := hL x (by simp)
    have hm : (if n ≤ x.1 then x.1 + 1 else n) ≤ 400 := by split <;> omega
    obtain ⟨h1, h2, h3, h4⟩ := top_fold L (if n ≤ x.1 then x.1 + 1 else n) (fun r hr => hL r (by simp [hr])) hm
    rw [List.foldl_cons]
    generalize L.foldl (fun n r => if n ≤ r.1 then r.1 + 1 else n) (if n ≤ x.1 then x.1 + 1 else n) = t at *
    refine ⟨by split at h1 <;> omega, h2, fun r hr => ?_, ?_⟩
    · rcases List.mem_cons.1 hr with e | e
      · subst e; split at h1 <;> omega
      · exact h3 r e
    · rcases h4 with e | ⟨r, h5, h6⟩
      · by_cases hc : n ≤ x.1
        · rw [if_pos hc] at e
          exact .inr ⟨x, by simp, by omega⟩
        · rw [if_neg hc] at e
          exact .inl e
      · exact .inr ⟨r, by simp [h5], h6⟩
theorem topL_is (L : List Ro) (h : OkL L) : 0 ≤ topL L ∧ topL L ≤ 400 ∧ (∀ r ∈ L, r.1 < topL L) ∧ (0 < topL L → ∃ r ∈ L, r.1 = topL L - 1) := by
  obtain ⟨h1, h2, h3, h4⟩ := top_fold L 0 h (by omega)
  exact ⟨h1, h2, h3, fun hp => h4.resolve_left (fun e => by unfold topL at hp; omega)⟩
theorem fL_some_of_mem {L : List Ro} {r : Ro} (h : r ∈ L) : (fL L r.1).isSome = true := by
  unfold fL
  rw [Option.isSome_map, List.find?_isSome]
  exact ⟨r, h, by simp⟩
theorem topL_topC (L : List Ro) (h : OkL L) : topL L = (topC (chL L) : Nat) := by
  obtain ⟨h0, h1, h2, h3⟩ := topL_is L h
  have e : topC (chL L) = (topL L).toNat := by
    refine topC_is _ _ (by omega) (fun i hi hi2 => ?_) (fun hp => ?_)
    · show (fL L (i : Nat)).isSome = false
      rw [fL_none (fun j r hr e => by have := h2 r (List.mem_of_getElem? hr); omega)]
      rfl
    · obtain ⟨r, h4, h5⟩ := h3 (by omega)
      show (fL L ((((topL L).toNat - 1 : Nat)) : Int)).isSome = true
      rw [show ((((topL L).toNat - 1 : Nat)) : Int) = r.1 by omega]
      exact fL_some_of_mem h4
  rw [e]; omega

def rcells (x : Ro) : List Value := [.int .i64 x.1, .string x.2]
abbrev rarr (x : Ro) : Array Value := #[.int .i64 x.1, .string x.2]
theorem rcells_one (l : List Ro) : ∀ u ∈ l.flatMap rcells, u.oneCell' = true := by
  intro u hu
  obtain ⟨x, _, h⟩ := List.mem_flatMap.1 hu
  simp only [rcells, List.mem_cons, List.not_mem_nil, or_false] at h
  rcases h with rfl | rfl <;> rfl
/-- the document's learner in memory -/
structure Rt (w : World) (base g : Nat) (L : List Ro) : Prop where
  lo : base ≤ g
  box : ∃ v, w.heap[g]? = some (.cells #[v] 27 (0, 0)) ∧ w.ownsRow base 29 2 v L.length (L.flatMap rcells)
theorem Rt.fr {base b2 : Nat} {T : List Nat} {w w' : World} {g : Nat} {L : List Ro} (h : Rt w b2 g L) (f : Fr base T w w') (h29 : 29 ∉ T) (h27 : 27 ∉ T) : Rt w' b2 g L := by
  obtain ⟨v, h1, h2⟩ := h.box
  exact ⟨h.lo, v, f.cells h1 h27, f.owns h2 h29⟩
theorem Rt.later {b2 : Nat} {w w' : World} {g : Nat} {L : List Ro} (h : Rt w b2 g L) (f : Below w.heap.size w w') : Rt w' b2 g L := h.fr (Fr.of (base := 0) (T := []) f) (by simp) (by simp)
theorem Rt.cells {w : World} {base g : Nat} {L : List Ro} (h : Rt w base g L) : ∃ a c, w.heap[g]? = some (.cells #[.slice a L.length c] 27 (0, 0)) ∧ w.ownsRow base 29 2 (.slice a L.length c) L.length (L.flatMap rcells) ∧ w.cell? ⟨g, 0, none⟩ = some (.slice a L.length c) := by
  obtain ⟨v, h1, h2⟩ := h.box
  obtain ⟨a, c, rfl, -⟩ := owns_at rcells 2 (fun _ => rfl) h2
  exact ⟨a, c, h1, h2, cell_of_heap h1 rfl⟩
theorem Try.info_29 : (Try.prog.info? 29).map (fun i => (i.zero, i.size, i.bytes)) = some (some (.agg (rarr (0, ⟨#[]⟩))), 2, 24) := by kernel_rfl
theorem rows_at {w : World} {base : Nat} {v : Value} {L : List Ro} (h : w.ownsRow base 29 2 v L.length (L.flatMap rcells)) : ∃ a c, v = .slice a L.length c ∧ L.length ≤ c ∧ c ≤ maxLen ∧ (0 < L.length → ∃ b off, a = some ⟨b, off, none⟩ ∧ ∀ i r, L[i]? = some r →
      w.cell? ⟨b, off + i * 2, none⟩ = some (.int .i64 r.1) ∧ w.cell? ⟨b, off + i * 2 + 1, none⟩ = some (.string r.2)) := by
  obtain ⟨a, c, h1, h2, h3, h4, h5⟩ := owns_at rcells 2 (fun _ => rfl) h
  refine ⟨a, c, h1, h2, h3, fun hl => ?_⟩
  obtain ⟨b, off, h6, h7⟩ := h5 hl
  exact ⟨b, off, h6, fun i r hr => ⟨h7 i r hr 0 (by omega), h7 i r hr 1 (by omega)⟩⟩
set_option maxRecDepth 100000 in
set_option maxHeartbeats 2000000 in
theorem rval_any (base g : Nat) (L : List Ro) (s : Int) (w : World) (h : Rt w base g L) (hlen : L.length ≤ 100000) :
    Calls Try.prog 15 #[.pointer (some ⟨g, 0, none⟩), .int .i64 s] w fun e w' => e = .returned (.tuple #[.string ((fL L s).getD ⟨#[]⟩), .bool (fL L s).isSome]) ∧ Below w.heap.size w w' := by
  obtain ⟨a, cc, -, h2, c0⟩ := h.cells
  have HO : Hid (w.ownsRow base 29 2 (.slice a L.length cc) L.length (L.flatMap rcells)) := h2
  clear h h2
  go_enter Try.func15, Try.ntmps15
  go_wp2
  go_loopw [13] (fun t wr => ∃ k : Nat, t = .int .i64 (k : Nat) ∧ k ≤ L.length ∧ Hid (∀ (j : Nat) r, j < k → L[j]? = some r → r.1 ≠ s) ∧ Hid (Below w.heap.size w wr)) (fun t _ => L.length - (intOf t).toNat)
  case atStart => exact ⟨0, rfl, by omega, fun j r hj => absurd hj (Nat.not_lt_zero j), Below.refl _ _⟩
  case round =>
    obtain ⟨k, rfl, hk, HN, HW⟩ := hrel
    by_cases hlt : k < L.length
    · obtain ⟨a', c', e, -, -, h5⟩ := rows_at (HO.out)
      simp only [Value.slice.injEq, true_and] at e
      obtain ⟨rfl, rfl⟩ := e
      obtain ⟨b, off, rfl, hc⟩ := h5 (by omega)
      have hr : L[k]? = some L[k] := List.getElem?_eq_getElem hlt
      generalize L[k] = r at hr
      have HR : Hid (L[k]? = some r) := hr
      obtain ⟨d0, d1⟩ := hc k r hr
      have d0 := (HW.out.cell (World.block_lt_of_cell? _ _ d0)).trans d0
      have d1 := (HW.out.cell (World.block_lt_of_cell? _ _ d1)).trans d1
      clear hc h5 hr
      obtain ⟨x, u⟩ := r
      simp only at d0 d1
      have HX : Hid (Below w.heap.size w (wr.alloc (.cells (rarr (x, u)) 29))) := HW.out.alloc HW.out.size _
      by_cases he : x = s
      · have hb : (x == s) = true := by simp [he]
        have HF : Hid (fL L s = some u) := fL_first HN.out HR.out he
        clear he
        go_wp2
        go_ret2
        exact ⟨by rw [HF.out]; rfl, HX.out⟩
      · have hb : (x == s) = false := by simp [he]
        have HN2 : Hid (∀ (j : Nat) r, j < k + 1 → L[j]? = some r → r.1 ≠ s) := fun j r hj hr => by
          by_cases e : j = k
          · rw [e, HR.out] at hr
            simp only [Option.some.injEq] at hr
            rw [← hr]; exact he
          · exact HN.out j r (by omega) hr
        clear he
        go_wp2
        go_roundw
        case rel => exact ⟨k + 1, by go_num, by omega, HN2.out, HX.out⟩
        case measure => simp [intOf]; omega
    · have HF : Hid (fL L s = none) := fL_none fun j r hr => HN.out j r (by have := (List.getElem?_eq_some_iff.1 hr).1; omega) hr
      go_wp2
      go_ret2
      exact ⟨by rw [HF.out]; rfl, HW.out⟩
end Go.Proofs.Ytfibjbjheilpfaa
