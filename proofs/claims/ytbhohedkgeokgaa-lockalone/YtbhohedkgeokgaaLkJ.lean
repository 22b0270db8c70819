/- The document's table: contracts of Holds, Busy, Len. -/
import Derived.Test.YtbhohedkgeokgaaLkI
namespace Go.Proofs.Ytbhohedkgeokgaa
open Go Go.RowKit
set_option linter.unusedVariables false
set_option linter.unusedSimpArgs false

/-- the rows, where they lie -/
theorem rows_at {w : World} {base : Nat} {v : Value} {L : List Rw} (h : w.ownsRow base 47 6 v L.length (L.flatMap Rw.cells)) : ∃ a c, v = .slice a L.length c ∧ L.length ≤ c ∧ c ≤ maxLen ∧ (a = none → c = 0 ∧ L = []) ∧ (0 < L.length → ∃ b off, a = some ⟨b, off, none⟩ ∧ ∀ i r, L[i]? = some r →
      w.cell? ⟨b, off + i * 6, none⟩ = some (.int .i64 r.id.1) ∧ w.cell? ⟨b, off + i * 6 + 1, none⟩ = some (.int .u64 r.id.2) ∧ w.cell? ⟨b, off + i * 6 + 2, none⟩ = some (.string r.key) ∧ w.cell? ⟨b, off + i * 6 + 3, none⟩ = some (.bool r.wri) ∧ w.cell? ⟨b, off + i * 6 + 4, none⟩ = some (.int .i64 r.at_) ∧ w.cell? ⟨b, off + i * 6 + 5, none⟩ = some (.int .i64 r.till)) := by
  obtain ⟨a, c, h1, h2, h3, h4, h5⟩ := owns_at Rw.cells 6 (fun _ => rfl) h
  refine ⟨a, c, h1, h2, h3, h4, fun hl => ?_⟩
  obtain ⟨b, off, h6, h7⟩ := h5 hl
  exact ⟨b, off, h6, fun i r hr => ⟨h7 i r hr 0 (by omega), h7 i r hr 1 (by omega), h7 i r hr 2 (by omega), h7 i r hr 3 (by omega), h7 i r hr 4 (by omega), h7 i r hr 5 (by omega)⟩⟩
theorem Rt.cells {w : World} {base g : Nat} {L : List Rw} {last : Int} (h : Rt w base g L last) : ∃ a c, w.heap[g]? = some (.cells #[.slice a L.length c, .int .i64 last] 28 (0, 0)) ∧ w.ownsRow base 47 6 (.slice a L.length c) L.length (L.flatMap Rw.cells) ∧ w.cell? ⟨g, 0, none⟩ = some (.slice a L.length c) ∧ w.cell? ⟨g, 1, none⟩ = some (.int .i64 last) := by
  obtain ⟨v, h1, h2⟩ := h.box
  obtain ⟨a, c, rfl, -⟩ := rows_at h2
  exact ⟨a, c, h1, h2, cell_of_heap h1 rfl, cell_of_heap h1 rfl⟩
theorem owns_later {w w' : World} {base : Nat} {e : TypeId} {n m : Nat} {v : Value} {xs : List Value} (h : w.ownsRow base e n v m xs) (hb : Below w.heap.size w w') : w'.ownsRow base e n v m xs := (Fr.of (base := 0) (T := []) hb).owns h (by simp)
theorem any_false_of {α : Type} {p : α → Bool} {l : List α} (h : ∀ j x, j < l.length → l[j]? = some x → p x = false) : l.any p = false := by
  rw [List.any_eq_false]
  intro x hx hc
  obtain ⟨i, hi⟩ := List.getElem?_of_mem hx
  rw [h i x (List.getElem?_eq_some_iff.1 hi).1 hi] at hc
  cases hc
theorem any_true_of {α : Type} {p : α → Bool} {l : List α} {k : Nat} {x : α} (h : l[k]? = some x) (hp : p x = true) : l.any p = true := List.any_eq_true.2 ⟨x, List.mem_of_getElem? h, hp⟩
theorem next_false {α : Type} {p : α → Bool} {l : List α} {k : Nat} {x : α} (h : ∀ j y, j < k → l[j]? = some y → p y = false) (hx : l[k]? = some x) (hp : p x = false) : ∀ j y, j < k + 1 → l[j]? = some y → p y = false := by
  intro j y hj hy
  by_cases e : j = k
  · rw [e, hx] at hy; simp only [Option.some.injEq] at hy; rw [← hy]; exact hp
  · exact h j y (by omega) hy

def holdP (id : Id) (r : Rw) : Bool := decide (r.till = 0) && decide (r.id = id)
set_option maxRecDepth 100000 in
set_option maxHeartbeats 2000000 in
theorem rholds_any (base g : Nat) (L : List Rw) (last : Int) (id : Id) (w : World) (h : Rt w base g L last) (hlen : L.length ≤ 100000) :
    Calls Try.prog 10 #[.pointer (some ⟨g, 0, none⟩), idv id] w fun e w' => e = .returned (.bool (holdsR L id)) ∧ Below w.heap.size w w' := by
  have hb : Below w.heap.size w (w.alloc (.cells #[.int .i64 id.1, .int .u64 id.2] 31)) := (Below.refl _ _).alloc (Nat.le_refl _) _
  have hn := heap_alloc_new w (.cells #[.int .i64 id.1, .int .u64 id.2] 31)
  obtain ⟨a, c, -, h2, c0, -⟩ := (h.later hb).cells
  have HN : Hid ((w.alloc (.cells #[.int .i64 id.1, .int .u64 id.2] 31)).heap[w.heap.size]? = some (.cells #[.int .i64 id.1, .int .u64 id.2] 31)) := hn
  have HO : Hid ((w.alloc (.cells #[.int .i64 id.1, .int .u64 id.2] 31)).ownsRow base 47 6 (.slice a L.length c) L.length (L.flatMap Rw.cells)) := h2
  have HB : Hid (Below w.heap.size w (w.alloc (.cells #[.int .i64 id.1, .int .u64 id.2] 31))) := hb
  clear h hb hn h2
  go_enter Try.func10, Try.ntmps10
  go_wp2
  generalize w.alloc (.cells #[.int .i64 id.1, .int .u64 id.2] 31) = w0 at *
  go_loopw [12] (fun t wr => ∃ k : Nat, t = .int .i64 (k : Nat) ∧ k ≤ L.length ∧ Hid (∀ j x, j < k → L[j]? = some x → holdP id x = false) ∧ Hid (Below w0.heap.size w0 wr)) (fun t _ => L.length - (intOf t).toNat)
  case atStart => exact ⟨0, rfl, by omega, fun i x hi => by omega, Below.refl _ _⟩
  case round =>
    obtain ⟨k, rfl, hk, HK, HW⟩ := hrel
    by_cases hlt : k < L.length
    · obtain ⟨a', c', e, -, -, -, h5⟩ := rows_at (owns_later HO.out HW.out)
      simp only [Value.slice.injEq, true_and] at e
      obtain ⟨rfl, rfl⟩ := e
      obtain ⟨b, off, rfl, hc⟩ := h5 (by omega)
      have hr : L[k]? = some L[k] := List.getElem?_eq_getElem hlt
      generalize L[k] = r at hr
      obtain ⟨d0, d1, d2, d3, d4, d5⟩ := hc k r hr
      have HR : Hid (L[k]? = some r) := hr
      clear hc h5 hr
      obtain ⟨x, key, wri, at_, till⟩ := r
      simp only at d0 d1 d2 d3 d4 d5
      have hn2 := (HW.out.block _ (Array.getElem?_eq_some_iff.1 HN.out).1).trans HN.out
      have p0 : wr.cell? ⟨w.heap.size, 0, none⟩ = some (.int .i64 id.1) := cell_of_heap hn2 rfl
      have p1 : wr.cell? ⟨w.heap.size, 1, none⟩ = some (.int .u64 id.2) := cell_of_heap hn2 rfl
      have hlt2 : w.heap.size < wr.heap.size := (Array.getElem?_eq_some_iff.1 hn2).1
      have HX : Hid (Below w0.heap.size w0 (wr.alloc (.cells #[.int .i64 x.1, .int .u64 x.2, .string key, .bool wri, .int .i64 at_, .int .i64 till] 47))) := HW.out.alloc HW.out.size _
      have heq := eql_31 x id
      clear hn2
      by_cases ht : till = 0
      · subst ht
        cases hd : decide (x = id)
        · rw [hd] at heq
          have HK2 : Hid (∀ j y, j < k + 1 → L[j]? = some y → holdP id y = false) := next_false HK.out HR.out (by simp only [holdP]; rw [hd]; rfl)
          clear hd
          go_wp2
          go_roundw
          case rel => exact ⟨k + 1, by go_num, by omega, HK2, HX⟩
          case measure => simp [intOf]; omega
        · rw [hd] at heq
          have HE : Hid (holdsR L id = true) := any_true_of (p := holdP id) HR.out (by simp only [holdP]; rw [hd]; rfl)
          clear hd
          go_wp2
          go_ret
          exact ⟨by rw [HE.out]; rfl, HB.out.trans (HX.out.mono HB.out.size)⟩
      · have hb : (till == 0) = false := by simp [ht]
        have HK2 : Hid (∀ j y, j < k + 1 → L[j]? = some y → holdP id y = false) := next_false HK.out HR.out (by simp [holdP, ht])
        clear ht
        go_wp2
        go_roundw
        case rel => exact ⟨k + 1, by go_num, by omega, HK2, HX⟩
        case measure => simp [intOf]; omega
    · have HE : Hid (holdsR L id = false) := any_false_of (p := holdP id) (fun j x hj hx => HK.out j x (by omega) hx)
      go_wp2
      go_ret
      exact ⟨by rw [HE.out]; rfl, HB.out.trans (HW.out.mono HB.out.size)⟩

def busyR1 (key : ByteArray) (w : Bool) (r : Rw) : Bool := decide (r.till = 0) && decide (r.key = key) && decide (key ≠ ⟨#[]⟩) && (r.wri || w)
theorem none_eq (key : ByteArray) : (key.toList == []) = decide (key = ⟨#[]⟩) := by
  have := key_eq key ⟨#[]⟩
  rwa [show (⟨#[]⟩ : ByteArray).toList = [] by rw [ByteArray.toList_eq]] at this
set_option maxRecDepth 100000 in
set_option maxHeartbeats 2000000 in
theorem rbusy_any (base g : Nat) (L : List Rw) (last : Int) (key : ByteArray) (wri : Bool) (w : World) (h : Rt w base g L last) (hlen : L.length ≤ 100000) :
    Calls Try.prog 12 #[.pointer (some ⟨g, 0, none⟩), .string key, .bool wri] w fun e w' => e = .returned (.bool (busyR L key wri)) ∧ Below w.heap.size w w' := by
  obtain ⟨a, c, -, h2, c0, -⟩ := h.cells
  have HO : Hid (w.ownsRow base 47 6 (.slice a L.length c) L.length (L.flatMap Rw.cells)) := h2
  clear h h2
  go_enter Try.func12, Try.ntmps12
  go_wp2
  go_loopw [14] (fun t wr => ∃ k : Nat, t = .int .i64 (k : Nat) ∧ k ≤ L.length ∧ Hid (∀ j x, j < k → L[j]? = some x → busyR1 key wri x = false) ∧ Hid (Below w.heap.size w wr)) (fun t _ => L.length - (intOf t).toNat)
  case atStart => exact ⟨0, rfl, by omega, fun i x hi => by omega, Below.refl _ _⟩
  case round =>
    obtain ⟨k, rfl, hk, HK, HW⟩ := hrel
    by_cases hlt : k < L.length
    · obtain ⟨a', c', e, -, -, -, h5⟩ := rows_at (owns_later HO.out HW.out)
      simp only [Value.slice.injEq, true_and] at e
      obtain ⟨rfl, rfl⟩ := e
      obtain ⟨b, off, rfl, hc⟩ := h5 (by omega)
      have hr : L[k]? = some L[k] := List.getElem?_eq_getElem hlt
      generalize L[k] = r at hr
      obtain ⟨d0, d1, d2, d3, d4, d5⟩ := hc k r hr
      have HR : Hid (L[k]? = some r) := hr
      clear hc h5 hr
      obtain ⟨x, key2, wri2, at_, till⟩ := r
      simp only at d0 d1 d2 d3 d4 d5
      have HX : Hid (Below w.heap.size w (wr.alloc (.cells #[.int .i64 x.1, .int .u64 x.2, .string key2, .bool wri2, .int .i64 at_, .int .i64 till] 47))) := HW.out.alloc HW.out.size _
      have go_on : busyR1 key wri ⟨x, key2, wri2, at_, till⟩ = false → Hid (∀ j y, j < k + 1 → L[j]? = some y → busyR1 key wri y = false) := fun hp => next_false HK.out HR.out hp
      have stop : busyR1 key wri ⟨x, key2, wri2, at_, till⟩ = true → Hid (busyR L key wri = true) := fun hp => any_true_of (p := busyR1 key wri) HR.out hp
      by_cases ht : till = 0
      · subst ht
        by_cases hq : key2 = key
        · have hbe : (key2.toList == key.toList) = true := by simp [hq]
          by_cases hz : key = ⟨#[]⟩
          · have hbz : (key.toList == []) = true := by rw [none_eq]; simp [hz]
            have HK2 := go_on (by simp [busyR1, hz])
            clear hz hq go_on stop
            go_wp2
            go_roundw
            case rel => exact ⟨k + 1, by go_num, by omega, HK2, HX⟩
            case measure => simp [intOf]; omega
          · have hbz : (key.toList == []) = false := by rw [none_eq]; simp [hz]
            cases wri2
            · cases wri
              · have HK2 := go_on (by simp [busyR1])
                clear hz hq go_on stop
                go_wp2
                go_roundw
                case rel => exact ⟨k + 1, by go_num, by omega, HK2, HX⟩
                case measure => simp [intOf]; omega
              · have HE := stop (by simp [busyR1, hz, hq])
                clear hz hq go_on stop
                go_wp2
                go_ret
                exact ⟨by rw [HE.out]; rfl, HX.out⟩
            · have HE := stop (by simp [busyR1, hz, hq])
              clear hz hq go_on stop
              go_wp2
              go_ret
              exact ⟨by rw [HE.out]; rfl, HX.out⟩
        · have hbe : (key2.toList == key.toList) = false := by rw [key_eq]; simp [hq]
          have HK2 := go_on (by simp [busyR1, hq])
          clear hq go_on stop
          go_wp2
          go_roundw
          case rel => exact ⟨k + 1, by go_num, by omega, HK2, HX⟩
          case measure => simp [intOf]; omega
      · have hb : (till == 0) = false := by simp [ht]
        have HK2 := go_on (by simp [busyR1, ht])
        clear ht go_on stop
        go_wp2
        go_roundw
        case rel => exact ⟨k + 1, by go_num, by omega, HK2, HX⟩
        case measure => simp [intOf]; omega
    · have HE : Hid (busyR L key wri = false) := any_false_of (p := busyR1 key wri) (fun j x hj hx => HK.out j x (by omega) hx)
      go_wp2
      go_ret
      exact ⟨by rw [HE.out]; rfl, HW.out⟩
end Go.Proofs.Ytbhohedkgeokgaa
