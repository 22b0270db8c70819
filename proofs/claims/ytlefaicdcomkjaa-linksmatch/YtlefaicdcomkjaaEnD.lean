/- What is right of a transaction, piece by piece: contracts. -/
import Derived.Test.YtlefaicdcomkjaaEnC
namespace Go.Proofs.Ytlefaicdcomkjaa
open Go Go.RowKit
set_option linter.unusedVariables false
set_option linter.unusedSimpArgs false

def rid (x : Id) : Bool := decide (0 ≤ x.1) && decide (x.1 < 6) && decide (0 < x.2)
theorem rightID_any (x : Id) (w : World) : Calls Try.prog 60 #[idv x] w fun e w' => e = .returned (.bool (rid x)) ∧ Below w.heap.size w w' := by
  have HB : Hid (Below w.heap.size w (w.alloc (.cells #[.int .i64 x.1, .int .u64 x.2] 38))) := (Below.refl _ _).alloc (Nat.le_refl _) _
  by_cases h1 : 0 ≤ x.1
  · by_cases h2 : x.1 < 6
    · by_cases h3 : 0 < x.2
      · have HE : Hid (rid x = true) := by rw [Hid]; simp [rid, h1, h2, h3]
        go_enter Try.func60, Try.ntmps60
        go_wp2
        go_ret
        exact ⟨by rw [HE.out]; rfl, HB.out⟩
      · have HE : Hid (rid x = false) := by rw [Hid]; simp [rid, h3]
        go_enter Try.func60, Try.ntmps60
        go_wp2
        go_ret
        exact ⟨by rw [HE.out]; rfl, HB.out⟩
    · have HE : Hid (rid x = false) := by rw [Hid]; simp [rid, h2]
      go_enter Try.func60, Try.ntmps60
      go_wp2
      go_ret
      exact ⟨by rw [HE.out]; rfl, HB.out⟩
  · have HE : Hid (rid x = false) := by rw [Hid]; simp [rid, h1]
    go_enter Try.func60, Try.ntmps60
    go_wp2
    go_ret
    exact ⟨by rw [HE.out]; rfl, HB.out⟩
theorem ref_rightID_any (x : Id) (w : World) (hx : 0 ≤ x.2) : Calls Try.prog 52 #[idv x] w fun e w' => e = .returned (.bool (rid x)) ∧ Below w.heap.size w w' := by
  have HB : Hid (Below w.heap.size w (w.alloc (.cells #[.int .i64 x.1, .int .u64 x.2] 38))) := (Below.refl _ _).alloc (Nat.le_refl _) _
  by_cases h1 : 0 ≤ x.1
  · by_cases h2 : x.1 ≤ 5
    · by_cases h3 : x.2 = 0
      · have HE : Hid (rid x = false) := by rw [Hid]; simp [rid, h3]
        have hb : (x.2 != 0) = false := by simp [h3]
        clear h3
        go_enter Try.func52, Try.ntmps52
        go_wp2
        go_ret
        exact ⟨by rw [HE.out]; rfl, HB.out⟩
      · have HE : Hid (rid x = true) := by rw [Hid]; simp [rid, h1]; omega
        have hb : (x.2 != 0) = true := by simp [h3]
        clear h3
        go_enter Try.func52, Try.ntmps52
        go_wp2
        go_ret
        exact ⟨by rw [HE.out]; rfl, HB.out⟩
    · have HE : Hid (rid x = false) := by rw [Hid]; simp [rid]; omega
      go_enter Try.func52, Try.ntmps52
      go_wp2
      go_ret
      exact ⟨by rw [HE.out]; rfl, HB.out⟩
  · have HE : Hid (rid x = false) := by rw [Hid]; simp [rid, h1]
    go_enter Try.func52, Try.ntmps52
    go_wp2
    go_ret
    exact ⟨by rw [HE.out]; rfl, HB.out⟩

/-- keys of reads, of writes -/
def keysR (l : List Rdv) : List Value := l.map fun r => .string r.key
def keysW (l : List Wrv) : List Value := l.map fun r => .string r.key
set_option maxRecDepth 100000 in
set_option maxHeartbeats 2000000 in
theorem readKeys_any (b1 : Nat) (v : Value) (l : List Rdv) (w : World) (h : w.ownsRow b1 95 2 v l.length (l.flatMap Rdv.cells)) (hl : l.length ≤ 1000) :
    Calls Try.prog 64 #[v] w fun e w' => (∃ u, e = .returned u ∧ OwnV w' w.heap.size 9 u (keysR l)) ∧ Below w.heap.size w w' := by
  obtain ⟨a, c, rfl, hR⟩ := owns_rds h ⟨⟨#[]⟩, 0⟩
  have HR : Hid (Rds w a l.length (fun i => l[i]?.getD ⟨⟨#[]⟩, 0⟩)) := hR
  clear h hR
  go_enter Try.func64, Try.ntmps64
  go_wp2
  go_loopw [3, 8] (fun v t wr => ∃ k : Nat, t = .int .i64 (k : Nat) ∧ k ≤ l.length ∧ Hid (OwnV wr w.heap.size 9 v (keysR (l.take k))) ∧ Hid (Below w.heap.size w wr)) (fun _ t _ => l.length - (intOf t).toNat)
  case atStart => exact ⟨0, rfl, by omega, OwnV.nil _ _ _, Below.refl _ _⟩
  case round =>
    obtain ⟨k, rfl, hk, HO, HB⟩ := hrel
    by_cases hlt : k < l.length
    · obtain ⟨b, off, rfl, hc⟩ := (HR.out.later HB.out).at (by omega)
      obtain ⟨d0, d1⟩ := hc k hlt
      clear hc
      have hx : l[k]? = some (l[k]?.getD ⟨⟨#[]⟩, 0⟩) := by rw [List.getElem?_eq_getElem hlt]; rfl
      generalize l[k]?.getD ⟨⟨#[]⟩, 0⟩ = x at d0 d1 hx
      obtain ⟨xk, xn⟩ := x
      simp only at d0 d1
      have HEQ : Hid (keysR (l.take (k + 1)) = keysR (l.take k) ++ [.string xk]) := take_map _ hx
      have hll : (keysR (l.take k)).length ≤ 1000 := by simp [keysR]; omega
      have hcc : ((wr.alloc (.cells #[.string xk, .int .u64 xn] 95)).alloc (.cells #[.string xk] 9)).cell? ⟨wr.heap.size + 1, 0, none⟩ = some (.string xk) := by
        have := heap_alloc_new (wr.alloc (.cells #[.string xk, .int .u64 xn] 95)) (.cells #[.string xk] 9)
        rw [World.size_alloc] at this
        exact cell_of_heap this rfl
      have HB3 : Hid (Below w.heap.size w ((wr.alloc (.cells #[.string xk, .int .u64 xn] 95)).alloc (.cells #[.string xk] 9))) := (HB.out.alloc HB.out.size _).alloc (by have := HB.out.size; simp; omega) _
      clear hx
      go_wp2_with (at_builtin; refine wp_append_one 117 9 _ 16 Try.underlying117 Try.info_9 rfl rfl _ _ rfl w.heap.size _ _ rfl ((HO.out.alloc _).alloc _) _ _ (.string xk) rfl hcc rfl (by omega) (by omega) HB3.out.size ?_; intro v2 w2 ho2 hb2)
      go_roundw
      case rel => exact ⟨k + 1, by go_num, by omega, by rw [HEQ.out]; exact ho2, HB3.out.trans hb2⟩
      case measure => simp [intOf]; omega
    · have hkk : l.take k = l := List.take_of_length_le (by omega)
      rw [hkk] at HO
      clear hkk
      go_wp2
      go_ret
      exact ⟨⟨_, rfl, HO.out⟩, HB.out⟩
set_option maxRecDepth 100000 in
set_option maxHeartbeats 2000000 in
theorem writeKeys_any (b1 : Nat) (v : Value) (l : List Wrv) (w : World) (h : w.ownsRow b1 98 3 v l.length (l.flatMap Wrv.cells)) (hl : l.length ≤ 1000) :
    Calls Try.prog 65 #[v] w fun e w' => (∃ u, e = .returned u ∧ OwnV w' w.heap.size 9 u (keysW l)) ∧ Below w.heap.size w w' := by
  obtain ⟨a, c, rfl, hR⟩ := owns_wrs h ⟨⟨#[]⟩, ⟨#[]⟩, false⟩
  have HR : Hid (Wrs w a l.length (fun i => l[i]?.getD ⟨⟨#[]⟩, ⟨#[]⟩, false⟩)) := hR
  clear h hR
  go_enter Try.func65, Try.ntmps65
  go_wp2
  go_loopw [3, 8] (fun v t wr => ∃ k : Nat, t = .int .i64 (k : Nat) ∧ k ≤ l.length ∧ Hid (OwnV wr w.heap.size 9 v (keysW (l.take k))) ∧ Hid (Below w.heap.size w wr)) (fun _ t _ => l.length - (intOf t).toNat)
  case atStart => exact ⟨0, rfl, by omega, OwnV.nil _ _ _, Below.refl _ _⟩
  case round =>
    obtain ⟨k, rfl, hk, HO, HB⟩ := hrel
    by_cases hlt : k < l.length
    · obtain ⟨b, off, rfl, hc⟩ := (HR.out.later HB.out).at (by omega)
      obtain ⟨d0, d1, d2⟩ := hc k hlt
      clear hc
      have hx : l[k]? = some (l[k]?.getD ⟨⟨#[]⟩, ⟨#[]⟩, false⟩) := by rw [List.getElem?_eq_getElem hlt]; rfl
      generalize l[k]?.getD ⟨⟨#[]⟩, ⟨#[]⟩, false⟩ = x at d0 d1 d2 hx
      obtain ⟨xk, xv, xg⟩ := x
      simp only at d0 d1 d2
      have HEQ : Hid (keysW (l.take (k + 1)) = keysW (l.take k) ++ [.string xk]) := take_map _ hx
      have hll : (keysW (l.take k)).length ≤ 1000 := by simp [keysW]; omega
      have hcc : ((wr.alloc (.cells #[.string xk, .string xv, .bool xg] 98)).alloc (.cells #[.string xk] 9)).cell? ⟨wr.heap.size + 1, 0, none⟩ = some (.string xk) := by
        have := heap_alloc_new (wr.alloc (.cells #[.string xk, .string xv, .bool xg] 98)) (.cells #[.string xk] 9)
        rw [World.size_alloc] at this
        exact cell_of_heap this rfl
      have HB3 : Hid (Below w.heap.size w ((wr.alloc (.cells #[.string xk, .string xv, .bool xg] 98)).alloc (.cells #[.string xk] 9))) := (HB.out.alloc HB.out.size _).alloc (by have := HB.out.size; simp; omega) _
      clear hx
      go_wp2_with (at_builtin; refine wp_append_one 117 9 _ 16 Try.underlying117 Try.info_9 rfl rfl _ _ rfl w.heap.size _ _ rfl ((HO.out.alloc _).alloc _) _ _ (.string xk) rfl hcc rfl (by omega) (by omega) HB3.out.size ?_; intro v2 w2 ho2 hb2)
      go_roundw
      case rel => exact ⟨k + 1, by go_num, by omega, by rw [HEQ.out]; exact ho2, HB3.out.trans hb2⟩
      case measure => simp [intOf]; omega
    · have hkk : l.take k = l := List.take_of_length_le (by omega)
      rw [hkk] at HO
      clear hkk
      go_wp2
      go_ret
      exact ⟨⟨_, rfl, HO.out⟩, HB.out⟩

/-- may these values be? -/
def rval1 (x : Wrv) : Bool := rightVal x.val && !(x.gone && decide (x.val ≠ ⟨#[]⟩))
theorem none_eq (key : ByteArray) : (key.toList == []) = decide (key = ⟨#[]⟩) := by
  have := key_eq key ⟨#[]⟩
  rwa [show (⟨#[]⟩ : ByteArray).toList = [] by rw [ByteArray.toList_eq]] at this
set_option maxRecDepth 100000 in
set_option maxHeartbeats 2000000 in
theorem rightValues_any (b1 : Nat) (v : Value) (l : List Wrv) (w : World) (h : w.ownsRow b1 98 3 v l.length (l.flatMap Wrv.cells)) (hl : l.length ≤ 1000) (hs : ∀ x ∈ l, x.val.size ≤ maxLen) :
    Calls Try.prog 66 #[v] w fun e w' => e = .returned (.bool (l.all rval1)) ∧ Below w.heap.size w w' := by
  obtain ⟨a, c, rfl, hR⟩ := owns_wrs h ⟨⟨#[]⟩, ⟨#[]⟩, false⟩
  have HR : Hid (Wrs w a l.length (fun i => l[i]?.getD ⟨⟨#[]⟩, ⟨#[]⟩, false⟩)) := hR
  have HS : Hid (∀ x ∈ l, x.val.size ≤ maxLen) := hs
  clear h hR hs
  go_enter Try.func66, Try.ntmps66
  go_wp2
  go_loopw [7] (fun t wr => ∃ k : Nat, t = .int .i64 (k : Nat) ∧ k ≤ l.length ∧ Hid (∀ j x, j < k → l[j]? = some x → rval1 x = true) ∧ Hid (Below w.heap.size w wr)) (fun t _ => l.length - (intOf t).toNat)
  case atStart => exact ⟨0, rfl, by omega, fun i x hi => by omega, Below.refl _ _⟩
  case round =>
    obtain ⟨k, rfl, hk, HK, HB⟩ := hrel
    by_cases hlt : k < l.length
    · obtain ⟨b, off, rfl, hc⟩ := (HR.out.later HB.out).at (by omega)
      obtain ⟨d0, d1, d2⟩ := hc k hlt
      clear hc
      have hx : l[k]? = some (l[k]?.getD ⟨⟨#[]⟩, ⟨#[]⟩, false⟩) := by rw [List.getElem?_eq_getElem hlt]; rfl
      generalize l[k]?.getD ⟨⟨#[]⟩, ⟨#[]⟩, false⟩ = x at d0 d1 d2 hx
      have hsz := HS.out x (List.mem_of_getElem? hx)
      have go_on : rval1 x = true → Hid (∀ j y, j < k + 1 → l[j]? = some y → rval1 y = true) := fun hp j y hj hy => by
        by_cases e : j = k
        · rw [e, hx] at hy; simp only [Option.some.injEq] at hy; rw [← hy]; exact hp
        · exact HK.out j y (by omega) hy
      have stop : rval1 x = false → Hid (l.all rval1 = false) := fun hp => List.all_eq_false.2 ⟨x, List.mem_of_getElem? hx, by rw [hp]; simp⟩
      obtain ⟨xk, xv, xg⟩ := x
      simp only at d0 d1 d2 hsz
      have HBX : Hid (Below w.heap.size w (wr.alloc (.cells #[.string xk, .string xv, .bool xg] 98))) := HB.out.alloc HB.out.size _
      have q := krightVal_any xv (wr.alloc (.cells #[.string xk, .string xv, .bool xg] 98)) hsz
      clear hx hsz
      go_wp2_with fail
      refine q.mono ?_
      rintro e w2 ⟨rfl, hw⟩
      subst hw
      clear q
      cases hv : rightVal xv
      · have HE := stop (by simp [rval1, hv])
        clear hv go_on stop
        go_wp2
        go_ret
        exact ⟨by rw [HE.out]; rfl, HBX.out⟩
      · cases xg
        · have HK2 := go_on (by simp [rval1, hv])
          clear hv go_on stop
          go_wp2
          go_roundw
          case rel => exact ⟨k + 1, by go_num, by omega, HK2, HBX⟩
          case measure => simp [intOf]; omega
        · by_cases hz : xv = ⟨#[]⟩
          · have hbz : (xv.toList == []) = true := by rw [none_eq]; simp [hz]
            have HK2 := go_on (by unfold rval1; simp only [hv]; simp [hz])
            clear hv go_on stop hz
            go_wp2
            go_roundw
            case rel => exact ⟨k + 1, by go_num, by omega, HK2, HBX⟩
            case measure => simp [intOf]; omega
          · have hbz : (xv.toList == []) = false := by rw [none_eq]; simp [hz]
            have HE := stop (by simp [rval1, hv, hz])
            clear hv go_on stop hz
            go_wp2
            go_ret
            exact ⟨by rw [HE.out]; rfl, HBX.out⟩
    · have HE : Hid (l.all rval1 = true) := List.all_eq_true.2 (fun x hx => by
        obtain ⟨i, hi⟩ := List.getElem?_of_mem hx
        exact HK.out i x (by have := (List.getElem?_eq_some_iff.1 hi).1; omega) hi)
      go_wp2
      go_ret
      exact ⟨by rw [HE.out]; rfl, HB.out⟩
end Go.Proofs.Ytlefaicdcomkjaa
