/- Who holds what: contracts of Holds, Busy, Len, of keys that may not be, of keys that are busy. -/
import Derived.Test.YtbhohedkgeokgaaLkB
namespace Go.Proofs.Ytbhohedkgeokgaa
open Go.RowKit
set_option linter.unusedVariables false
set_option linter.unusedSimpArgs false

/-- a table's cells -/
theorem Tb.cells {w : World} {base g : Nat} {H F : List Spn} {last : Int} (h : Tb w base g H F last) : ∃ ha hc fa fc, w.heap[g]? = some (.cells #[.slice ha H.length hc, .slice fa F.length fc, .int .i64 last] 54 (0, 0)) ∧ SpO w base (.slice ha H.length hc) H ∧ SpO w base (.slice fa F.length fc) F ∧
    w.cell? ⟨g, 0, none⟩ = some (.slice ha H.length hc) ∧ w.cell? ⟨g, 1, none⟩ = some (.slice fa F.length fc) ∧ w.cell? ⟨g, 2, none⟩ = some (.int .i64 last) ∧ (∀ k, (Value.slice ha H.length hc).ownBlock = some k → (Value.slice fa F.length fc).ownBlock ≠ some k) := by
  obtain ⟨hv, fv, h1, h2, h3, h4⟩ := h.box
  obtain ⟨ha, hc, rfl, -⟩ := h2.at
  obtain ⟨fa, fc, rfl, -⟩ := h3.at
  exact ⟨ha, hc, fa, fc, h1, h2, h3, cell_of_heap h1 rfl, cell_of_heap h1 rfl, cell_of_heap h1 rfl, h4⟩

theorem place_any (base g : Nat) (H F : List Spn) (last : Int) (id : Id) (w : World) (h : Tb w base g H F last) (hlen : H.length ≤ 1000) :
    Calls Try.prog 23 #[.pointer (some ⟨g, 0, none⟩), idv id] w fun e w' => (∃ i : Int, e = .returned (.int .i64 i) ∧ Idx (idP id) H i) ∧ Below w.heap.size w w' := by
  have hb : Below w.heap.size w (w.alloc (.cells #[.int .i64 id.1, .int .u64 id.2] 31)) := (Below.refl _ _).alloc (Nat.le_refl _) _
  have hn := heap_alloc_new w (.cells #[.int .i64 id.1, .int .u64 id.2] 31)
  obtain ⟨ha, hc, fa, fc, h1, h2, h3, c0, -⟩ := (h.later hb).cells
  have hx := idx_place w.heap.size id base _ H _ h2 hlen (cell_of_heap hn rfl) (cell_of_heap hn rfl)
  have HB : Hid (Below w.heap.size w (w.alloc (.cells #[.int .i64 id.1, .int .u64 id.2] 31))) := hb
  clear h h1 h2 h3 hb hn
  go_enter Try.func23, Try.ntmps23
  go_wp2_with fail
  refine hx.mono ?_
  rintro e w1 ⟨⟨i, rfl, hi⟩, hb⟩
  have HI : Hid (Idx (idP id) H i) := hi
  have HB2 : Hid (Below w.heap.size w w1) := HB.out.trans (hb.mono HB.out.size)
  clear hx hi hb c0
  go_wp2
  go_ret
  exact ⟨⟨i, rfl, HI.out⟩, HB2.out⟩
theorem holds_any (base g : Nat) (H F : List Spn) (last : Int) (id : Id) (w : World) (h : Tb w base g H F last) (hlen : H.length ≤ 1000) :
    Calls Try.prog 9 #[.pointer (some ⟨g, 0, none⟩), idv id] w fun e w' => e = .returned (.bool (holdsS H id)) ∧ Below w.heap.size w w' := by
  have hb : Below w.heap.size w (w.alloc (.cells #[.int .i64 id.1, .int .u64 id.2] 31)) := (Below.refl _ _).alloc (Nat.le_refl _) _
  have hn := heap_alloc_new w (.cells #[.int .i64 id.1, .int .u64 id.2] 31)
  have c0 : (w.alloc (.cells #[.int .i64 id.1, .int .u64 id.2] 31)).cell? ⟨w.heap.size, 0, none⟩ = some (.int .i64 id.1) := cell_of_heap hn rfl
  have c1 : (w.alloc (.cells #[.int .i64 id.1, .int .u64 id.2] 31)).cell? ⟨w.heap.size, 1, none⟩ = some (.int .u64 id.2) := cell_of_heap hn rfl
  have hx := place_any base g H F last id _ (h.later hb) hlen
  have HB : Hid (Below w.heap.size w (w.alloc (.cells #[.int .i64 id.1, .int .u64 id.2] 31))) := hb
  clear h hb hn
  go_enter Try.func9, Try.ntmps9
  go_wp2_with fail
  refine hx.mono ?_
  rintro e w1 ⟨⟨i, rfl, hi⟩, hb⟩
  have HI : Hid (decide (0 ≤ i) = holdsS H id) := hi.nonneg
  have HB2 : Hid (Below w.heap.size w w1) := HB.out.trans (hb.mono HB.out.size)
  clear hx hi hb c0 c1
  by_cases h0 : 0 ≤ i
  · go_wp2
    go_ret
    exact ⟨by rw [← HI.out]; simp [h0], HB2.out⟩
  · go_wp2
    go_ret
    exact ⟨by rw [← HI.out]; simp [h0], HB2.out⟩
theorem containsF_busy (pk pw : Nat) (key : ByteArray) (wri : Bool) (base : Nat) (v : Value) (l : List Spn) (w : World) (h : SpO w base v l) (hlen : l.length ≤ 1000) (hk : w.cell? ⟨pk, 0, none⟩ = some (.string key)) (hw : w.cell? ⟨pw, 0, none⟩ = some (.bool wri)) :
    Calls Try.prog 24 #[v, .func (.func 25) #[] #[.pointer (some ⟨pk, 0, none⟩), .pointer (some ⟨pw, 0, none⟩)]] w fun e w' => e = .returned (.bool (busyS l key wri)) ∧ Below w.heap.size w w' := by
  have hx := idx_busy pk pw key wri base v l w h hlen hk hw
  obtain ⟨a, c, rfl, -⟩ := h.at
  clear h hk hw
  go_enter Try.func24, Try.ntmps24
  go_wp2_with fail
  refine hx.mono ?_
  rintro e w1 ⟨⟨i, rfl, hi⟩, hb⟩
  have HI : Hid (decide (0 ≤ i) = busyS l key wri) := hi.nonneg
  have HB2 : Hid (Below w.heap.size w w1) := hb
  clear hx hi hb
  by_cases h0 : 0 ≤ i
  · go_wp2
    go_ret
    exact ⟨by rw [← HI.out]; simp [h0], HB2.out⟩
  · go_wp2
    go_ret
    exact ⟨by rw [← HI.out]; simp [h0], HB2.out⟩
theorem busy_any (base g : Nat) (H F : List Spn) (last : Int) (key : ByteArray) (wri : Bool) (w : World) (h : Tb w base g H F last) (hlen : H.length ≤ 1000) :
    Calls Try.prog 11 #[.pointer (some ⟨g, 0, none⟩), .string key, .bool wri] w fun e w' => e = .returned (.bool (busyS H key wri)) ∧ Below w.heap.size w w' := by
  have hb : Below w.heap.size w ((w.alloc (.cells #[.string key] 9)).alloc (.cells #[.bool wri] 4)) := ((Below.refl _ _).alloc (Nat.le_refl _) _).alloc (by simp) _
  have hn := heap_alloc_new (w.alloc (.cells #[.string key] 9)) (.cells #[.bool wri] 4)
  have hk : ((w.alloc (.cells #[.string key] 9)).alloc (.cells #[.bool wri] 4)).cell? ⟨w.heap.size, 0, none⟩ = some (.string key) := cell_later ((Below.refl _ _).alloc (Nat.le_refl _) _) (cell_of_heap (heap_alloc_new w _) rfl)
  rw [World.size_alloc] at hn
  obtain ⟨ha, hc, fa, fc, h1, h2, h3, c0, -⟩ := (h.later hb).cells
  have hx := containsF_busy w.heap.size (w.heap.size + 1) key wri base _ H _ h2 hlen hk (cell_of_heap hn rfl)
  have HB : Hid (Below w.heap.size w ((w.alloc (.cells #[.string key] 9)).alloc (.cells #[.bool wri] 4))) := hb
  clear h h1 h2 h3 hb hn hk
  go_enter Try.func11, Try.ntmps11
  go_wp2_with fail
  refine hx.mono ?_
  rintro e w1 ⟨rfl, hb⟩
  have HB2 : Hid (Below w.heap.size w w1) := HB.out.trans (hb.mono HB.out.size)
  clear hx hb c0
  go_wp2
  go_ret
  exact ⟨rfl, HB2.out⟩
theorem len_any (base g : Nat) (H F : List Spn) (last : Int) (w : World) (h : Tb w base g H F last) :
    Calls Try.prog 13 #[.pointer (some ⟨g, 0, none⟩)] w fun e w' => e = .returned (.int .i64 (H.length : Nat)) ∧ w' = w := by
  obtain ⟨ha, hc, fa, fc, h1, h2, h3, c0, -⟩ := h.cells
  clear h h1 h2 h3
  go_enter Try.func13, Try.ntmps13
  go_wp2
  go_ret
  exact ⟨rfl, rfl⟩

def busyQ (H : List Spn) (wri : Bool) (k : ByteArray) : Bool := busyS H k wri
def wrongP (k : ByteArray) : Bool := !right k
theorem wrong_clo (key : ByteArray) (w : World) (hs : key.size ≤ maxLen) :
    Calls Try.prog 38 (#[.string key] ++ #[]) w fun e w' => e = .returned (.bool (wrongP key)) ∧ Below w.heap.size w w' := by
  have hx := kright_any key w hs
  go_enter Try.func38, Try.ntmps38
  go_wp2_with fail
  refine hx.mono ?_
  rintro e w1 ⟨rfl, hw⟩
  subst w1
  clear hx
  go_wp2
  go_ret
  exact ⟨rfl, Below.refl _ _⟩
theorem busyk_clo (pt pw base g : Nat) (H F : List Spn) (last : Int) (key : ByteArray) (wri : Bool) (w : World) (h : Tb w base g H F last) (hlen : H.length ≤ 1000) (ht : w.cell? ⟨pt, 0, none⟩ = some (.pointer (some ⟨g, 0, none⟩))) (hw : w.cell? ⟨pw, 0, none⟩ = some (.bool wri)) :
    Calls Try.prog 40 (#[.string key] ++ #[.pointer (some ⟨pt, 0, none⟩), .pointer (some ⟨pw, 0, none⟩)]) w fun e w' => e = .returned (.bool (busyQ H wri key)) ∧ Below w.heap.size w w' := by
  unfold busyQ
  have hx := busy_any base g H F last key wri w h hlen
  clear h
  go_enter Try.func40, Try.ntmps40
  go_wp2_with fail
  refine hx.mono ?_
  rintro e w1 ⟨rfl, hb⟩
  have HB2 : Hid (Below w.heap.size w w1) := hb
  clear hx hb ht hw
  go_wp2
  go_ret
  exact ⟨rfl, HB2.out⟩

set_option maxRecDepth 100000 in
set_option maxHeartbeats 2000000 in
theorem sidx_wrong (v : Value) (l : List ByteArray) (w : World) (h : SR w v l)  :
    Calls Try.prog 42 #[v, .func (.func 38) #[] #[]] w fun e w' => (∃ i : Int, e = .returned (.int .i64 i) ∧ Hid (decide (0 ≤ i) = l.any (wrongP))) ∧ Below w.heap.size w w' := by
  obtain ⟨a, c, rfl, h1, h2, h3⟩ := h.slice
  have hl := h.few
  have HS : Hid (SR w (.slice a l.length c) l) := h
  skip
  clear h
  go_enter Try.func42, Try.ntmps42
  go_wp2
  go_loopw [8] (fun t wr => ∃ k : Nat, t = .int .i64 (k : Nat) ∧ k ≤ l.length ∧ Hid (∀ j x, j < k → l[j]? = some x → wrongP x = false) ∧ Hid (Below w.heap.size w wr)) (fun t _ => l.length - (intOf t).toNat)
  case atStart => exact ⟨0, rfl, by omega, fun i x hi => by omega, Below.refl _ _⟩
  case round =>
    obtain ⟨k, rfl, hk, HK, HB⟩ := hrel
    by_cases hlt : k < l.length
    · obtain ⟨b, off, rfl, hc⟩ := (HS.out.later HB.out).at (by omega)
      have c0 := hc k hlt
      clear hc
      have hx : l[k]? = some (l[k]?.getD ⟨#[]⟩) := by rw [List.getElem?_eq_getElem hlt]; rfl
      generalize l[k]?.getD ⟨#[]⟩ = x at c0 hx
      have HX : Hid (l[k]? = some x) := hx
      have hsz := HS.out.small x (List.mem_of_getElem? hx)
      have cl := wrong_clo x wr (by unfold maxLen; omega)
      clear hx hsz
      go_wp2_with fail
      refine cl.mono ?_
      rintro e w1 ⟨rfl, hb⟩
      have HB2 : Hid (Below w.heap.size w w1) := HB.out.trans (hb.mono HB.out.size)
      clear cl hb c0
      cases hp : wrongP x
      · have HK2 : Hid (∀ j y, j < k + 1 → l[j]? = some y → wrongP y = false) := fun j y hj hy => by
          by_cases e : j = k
          · rw [e, HX.out] at hy; simp only [Option.some.injEq] at hy; rw [← hy]; exact hp
          · exact HK.out j y (by omega) hy
        clear hp
        go_wp2
        go_roundw
        case rel => exact ⟨k + 1, by go_num, by omega, HK2, HB2⟩
        case measure => simp [intOf]; omega
      · have HP : Hid (l.any (wrongP) = true) := List.any_eq_true.2 ⟨x, List.mem_of_getElem? HX.out, hp⟩
        clear hp
        go_wp2
        go_ret
        refine ⟨⟨_, rfl, ?_⟩, HB2.out⟩
        show decide (0 ≤ ((k : Nat) : Int)) = l.any (wrongP)
        rw [HP.out]
        simp
    · have HE : Hid (l.any (wrongP) = false) := by
        show l.any (wrongP) = false
        rw [List.any_eq_false]
        intro x hx hc
        obtain ⟨i, hi⟩ := List.getElem?_of_mem hx
        have := HK.out i x (by have := (List.getElem?_eq_some_iff.1 hi).1; omega) hi
        rw [this] at hc
        cases hc
      go_wp2
      go_ret
      refine ⟨⟨_, rfl, ?_⟩, HB.out⟩
      show decide (0 ≤ (-1 : Int)) = l.any (wrongP)
      rw [HE.out]
      rfl
theorem sany_wrong (v : Value) (l : List ByteArray) (w : World) (h : SR w v l)  :
    Calls Try.prog 37 #[v, .func (.func 38) #[] #[]] w fun e w' => e = .returned (.bool (l.any (wrongP))) ∧ Below w.heap.size w w' := by
  have hx := sidx_wrong v l w h 
  obtain ⟨a, c, rfl, -⟩ := h.slice
  clear h
  go_enter Try.func37, Try.ntmps37
  go_wp2_with fail
  refine hx.mono ?_
  rintro e w1 ⟨⟨i, rfl, HI⟩, hb⟩
  have HB2 : Hid (Below w.heap.size w w1) := hb
  clear hx hb
  by_cases h0 : 0 ≤ i
  · go_wp2
    go_ret
    exact ⟨by rw [← HI.out]; simp [h0], HB2.out⟩
  · go_wp2
    go_ret
    exact ⟨by rw [← HI.out]; simp [h0], HB2.out⟩
theorem allRight_any (v : Value) (l : List ByteArray) (w : World) (h : SR w v l) :
    Calls Try.prog 28 #[v] w fun e w' => e = .returned (.bool (allR l)) ∧ Below w.heap.size w w' := by
  have hx := sany_wrong v l w h
  obtain ⟨a, c, rfl, -⟩ := h.slice
  have HE : Hid ((!l.any wrongP) = allR l) := by
    show (!l.any wrongP) = allR l
    rw [List.not_any_eq_all_not]
    simp [allR, wrongP]
  clear h
  go_enter Try.func28, Try.ntmps28
  go_wp2_with fail
  refine hx.mono ?_
  rintro e w1 ⟨rfl, hb⟩
  have HB2 : Hid (Below w.heap.size w w1) := hb
  clear hx hb
  generalize l.any wrongP = q at HE ⊢
  go_wp2
  go_ret
  exact ⟨by rw [← HE.out]; rfl, HB2.out⟩

set_option maxRecDepth 100000 in
set_option maxHeartbeats 2000000 in
theorem sidx_busy (pt pw base g : Nat) (H F : List Spn) (last : Int) (wri : Bool) (v : Value) (l : List ByteArray) (w : World) (h : SR w v l) (ht0 : Tb w base g H F last) (hlen : H.length ≤ 1000) (ht : w.cell? ⟨pt, 0, none⟩ = some (.pointer (some ⟨g, 0, none⟩))) (hw : w.cell? ⟨pw, 0, none⟩ = some (.bool wri)) :
    Calls Try.prog 42 #[v, .func (.func 40) #[] #[.pointer (some ⟨pt, 0, none⟩), .pointer (some ⟨pw, 0, none⟩)]] w fun e w' => (∃ i : Int, e = .returned (.int .i64 i) ∧ Hid (decide (0 ≤ i) = l.any (busyQ H wri))) ∧ Below w.heap.size w w' := by
  obtain ⟨a, c, rfl, h1, h2, h3⟩ := h.slice
  have hl := h.few
  have HS : Hid (SR w (.slice a l.length c) l) := h
  have HT0 : Hid (Tb w base g H F last) := ht0
  have HT : Hid (w.cell? ⟨pt, 0, none⟩ = some (.pointer (some ⟨g, 0, none⟩))) := ht
  have HW : Hid (w.cell? ⟨pw, 0, none⟩ = some (.bool wri)) := hw
  clear h ht0 ht hw
  go_enter Try.func42, Try.ntmps42
  go_wp2
  go_loopw [8] (fun t wr => ∃ k : Nat, t = .int .i64 (k : Nat) ∧ k ≤ l.length ∧ Hid (∀ j x, j < k → l[j]? = some x → busyQ H wri x = false) ∧ Hid (Below w.heap.size w wr)) (fun t _ => l.length - (intOf t).toNat)
  case atStart => exact ⟨0, rfl, by omega, fun i x hi => by omega, Below.refl _ _⟩
  case round =>
    obtain ⟨k, rfl, hk, HK, HB⟩ := hrel
    by_cases hlt : k < l.length
    · obtain ⟨b, off, rfl, hc⟩ := (HS.out.later HB.out).at (by omega)
      have c0 := hc k hlt
      clear hc
      have hx : l[k]? = some (l[k]?.getD ⟨#[]⟩) := by rw [List.getElem?_eq_getElem hlt]; rfl
      generalize l[k]?.getD ⟨#[]⟩ = x at c0 hx
      have HX : Hid (l[k]? = some x) := hx
      have hsz := HS.out.small x (List.mem_of_getElem? hx)
      have cl := busyk_clo pt pw base g H F last x wri wr (HT0.out.later HB.out) hlen (cell_later HB.out HT.out) (cell_later HB.out HW.out)
      clear hx hsz
      go_wp2_with fail
      refine cl.mono ?_
      rintro e w1 ⟨rfl, hb⟩
      have HB2 : Hid (Below w.heap.size w w1) := HB.out.trans (hb.mono HB.out.size)
      clear cl hb c0
      cases hp : busyQ H wri x
      · have HK2 : Hid (∀ j y, j < k + 1 → l[j]? = some y → busyQ H wri y = false) := fun j y hj hy => by
          by_cases e : j = k
          · rw [e, HX.out] at hy; simp only [Option.some.injEq] at hy; rw [← hy]; exact hp
          · exact HK.out j y (by omega) hy
        clear hp
        go_wp2
        go_roundw
        case rel => exact ⟨k + 1, by go_num, by omega, HK2, HB2⟩
        case measure => simp [intOf]; omega
      · have HP : Hid (l.any (busyQ H wri) = true) := List.any_eq_true.2 ⟨x, List.mem_of_getElem? HX.out, hp⟩
        clear hp
        go_wp2
        go_ret
        refine ⟨⟨_, rfl, ?_⟩, HB2.out⟩
        show decide (0 ≤ ((k : Nat) : Int)) = l.any (busyQ H wri)
        rw [HP.out]
        simp
    · have HE : Hid (l.any (busyQ H wri) = false) := by
        show l.any (busyQ H wri) = false
        rw [List.any_eq_false]
        intro x hx hc
        obtain ⟨i, hi⟩ := List.getElem?_of_mem hx
        have := HK.out i x (by have := (List.getElem?_eq_some_iff.1 hi).1; omega) hi
        rw [this] at hc
        cases hc
      go_wp2
      go_ret
      refine ⟨⟨_, rfl, ?_⟩, HB.out⟩
      show decide (0 ≤ (-1 : Int)) = l.any (busyQ H wri)
      rw [HE.out]
      rfl
theorem sany_busy (pt pw base g : Nat) (H F : List Spn) (last : Int) (wri : Bool) (v : Value) (l : List ByteArray) (w : World) (h : SR w v l) (ht0 : Tb w base g H F last) (hlen : H.length ≤ 1000) (ht : w.cell? ⟨pt, 0, none⟩ = some (.pointer (some ⟨g, 0, none⟩))) (hw : w.cell? ⟨pw, 0, none⟩ = some (.bool wri)) :
    Calls Try.prog 37 #[v, .func (.func 40) #[] #[.pointer (some ⟨pt, 0, none⟩), .pointer (some ⟨pw, 0, none⟩)]] w fun e w' => e = .returned (.bool (l.any (busyQ H wri))) ∧ Below w.heap.size w w' := by
  have hx := sidx_busy pt pw base g H F last wri v l w h ht0 hlen ht hw
  obtain ⟨a, c, rfl, -⟩ := h.slice
  clear h ht0 ht hw
  go_enter Try.func37, Try.ntmps37
  go_wp2_with fail
  refine hx.mono ?_
  rintro e w1 ⟨⟨i, rfl, HI⟩, hb⟩
  have HB2 : Hid (Below w.heap.size w w1) := hb
  clear hx hb
  by_cases h0 : 0 ≤ i
  · go_wp2
    go_ret
    exact ⟨by rw [← HI.out]; simp [h0], HB2.out⟩
  · go_wp2
    go_ret
    exact ⟨by rw [← HI.out]; simp [h0], HB2.out⟩
theorem anyBusy_any (base g : Nat) (H F : List Spn) (last : Int) (wri : Bool) (v : Value) (l : List ByteArray) (w : World) (h : SR w v l) (ht : Tb w base g H F last) (hlen : H.length ≤ 1000) :
    Calls Try.prog 29 #[.pointer (some ⟨g, 0, none⟩), v, .bool wri] w fun e w' => e = .returned (.bool (l.any (busyQ H wri))) ∧ Below w.heap.size w w' := by
  have hb : Below w.heap.size w ((w.alloc (.cells #[.pointer (some ⟨g, 0, none⟩)] 23)).alloc (.cells #[.bool wri] 4)) := ((Below.refl _ _).alloc (Nat.le_refl _) _).alloc (by simp) _
  have hn := heap_alloc_new (w.alloc (.cells #[.pointer (some ⟨g, 0, none⟩)] 23)) (.cells #[.bool wri] 4)
  have hk : ((w.alloc (.cells #[.pointer (some ⟨g, 0, none⟩)] 23)).alloc (.cells #[.bool wri] 4)).cell? ⟨w.heap.size, 0, none⟩ = some (.pointer (some ⟨g, 0, none⟩)) := cell_later ((Below.refl _ _).alloc (Nat.le_refl _) _) (cell_of_heap (heap_alloc_new w _) rfl)
  rw [World.size_alloc] at hn
  have hx := sany_busy w.heap.size (w.heap.size + 1) base g H F last wri v l _ (h.later hb) (ht.later hb) hlen hk (cell_of_heap hn rfl)
  have HB : Hid (Below w.heap.size w ((w.alloc (.cells #[.pointer (some ⟨g, 0, none⟩)] 23)).alloc (.cells #[.bool wri] 4))) := hb
  obtain ⟨a, c, rfl, -⟩ := h.slice
  clear h ht hb hn hk
  go_enter Try.func29, Try.ntmps29
  go_wp2_with fail
  refine hx.mono ?_
  rintro e w1 ⟨rfl, hb⟩
  have HB2 : Hid (Below w.heap.size w w1) := HB.out.trans (hb.mono HB.out.size)
  clear hx hb
  go_wp2
  go_ret
  exact ⟨rfl, HB2.out⟩
end Go.Proofs.Ytbhohedkgeokgaa
