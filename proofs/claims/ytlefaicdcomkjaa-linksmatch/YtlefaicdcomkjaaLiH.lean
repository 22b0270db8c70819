/- slices.Delete of a row's end; the program's Cut. -/
import Derived.Test.YtlefaicdcomkjaaLiG
import Derived.Deep.RegionLaw
namespace Go.Proofs.Ytlefaicdcomkjaa
open Go Go.RowKit
set_option linter.unusedVariables false
set_option linter.unusedSimpArgs false

/-- append of nothing where there is room -/
theorem step_append_none {w : World} {ops : Array Oper} {o : Oper} {a : Act} {K : Act → World → Prop} {Q : Exit → Act → World → Prop} {E : Prop} (hgd : o.guard = none) (s x : Operand)
    (ho : o.op = .call { callee := .builtin .append, args := #[s, x], argTypes := #[30, 30] })
    (g n cap : Nat) (cur : Array Value) (hs : a.eval s = .slice (some ⟨g, 0, none⟩) n cap) (hg : w.heap[g]? = some (.cells cur 45 (0, 0)))
    (ad : Addr) (c : Nat) (hx : a.eval x = .slice (some ad) 0 c) (hroom : n ≤ cap) (hfit : n * 10 ≤ cur.size)
    (h : K (a.put o.dst (.slice (some ⟨g, 0, none⟩) n cap)) w) :
    if Region.wanted o (yielded ops a.tmps) = true then Oper.wp Try.prog o a w K Q else E := by
  have hw : Region.wanted o (yielded ops a.tmps) = true := by simp [Region.wanted, hgd]
  rw [if_pos hw]
  obtain ⟨i0, hi, hz0, hz1, hz2⟩ := info_parts Try.info_45
  have hrun := run_append_room (P := Try.prog) w 30 o.type 45 i0 Try.underlying30 hi g n cap cur hg ad 0 c [] (by simp) (by simp) (by simp) (by omega) (by rw [hz1]; simpa using hfit)
  rw [hz1] at hrun
  have e : (cur.toList.take (n * 10) ++ [] ++ cur.toList.drop (n * 10 + ([] : List Value).length)).toArray = cur := by simp
  rw [e, setRow_self w g cur 45 (0, 0) hg] at hrun
  unfold Oper.wp
  simp [execOp, ho, resolve, invoke, builtin, hs, hx, hrun, Result.andThen]
  exact h

def zer10 : Array Value := #[.int .u64 0, .int .i64 0, .int .i64 0, .int .u64 0, .bool false, .slice none 0 0, .slice none 0 0, .int .i64 0, .int .u64 0, .int .i64 0]
theorem zero45 (w : World) : (zeroValue 45).run Try.prog w = .ok (.agg zer10) w := by kernel_rfl
theorem zer_at : ∀ j, j < 10 → (zer10[j]!).oneCell' = true := by decide
theorem zer_one (n : Nat) : ∀ u ∈ (Builtin.zeroCells zer10 n).toList, u.oneCell' = true := by
  intro u hu
  unfold Builtin.zeroCells at hu
  rw [Array.toList_map, List.mem_map] at hu
  obtain ⟨i, _, rfl⟩ := hu
  exact zer_at _ (Nat.mod_lt _ (by decide))
set_option maxRecDepth 100000 in
set_option maxHeartbeats 4000000 in
theorem delete_tail (b cap len n : Nat) (cur : Array Value) (w : World) (hh : w.heap[b]? = some (.cells cur 45 (0, 0))) (hs : cur.size = cap * 10) (hn : len ≤ cap) (hm : cap ≤ maxLen) (hlt : n < len) :
    Calls Try.prog 42 #[.slice (some ⟨b, 0, none⟩) len cap, .int .i64 (n : Nat), .int .i64 (len : Nat)] w fun e w' => e = .returned (.slice (some ⟨b, 0, none⟩) n cap) ∧ (∃ cur', w'.heap[b]? = some (.cells cur' 45 (0, 0)) ∧ cur'.size = cap * 10 ∧ cur'.toList.take (n * 10) = cur.toList.take (n * 10)) ∧ w.grownBy w' (some b) := by
  have hm' : cap ≤ 2 ^ 63 - 1 := hm
  obtain ⟨A, hA⟩ : ∃ A : Addr, (if cap = len then some (⟨b, 0, none⟩ : Addr) else some ⟨b, len * 10, none⟩) = some A := by
    by_cases h : cap = len
    · exact ⟨_, by rw [if_pos h]⟩
    · exact ⟨_, by rw [if_neg h]⟩
  have HH : Hid (w.drew.heap[b]? = some (.cells cur 45 (0, 0))) := hh
  have hfit : n * 10 ≤ cur.size := by omega
  have hzl : (Builtin.zeroCells zer10 (len - n)).toList.length = (len - n) * 10 := by rw [Array.length_toList, size_zeroCells]; rfl
  have hst := run_storeCells_at Try.prog b (n * 10) 45 (Builtin.zeroCells zer10 (len - n)).toList 0 cur w.drew hh (by rw [hzl, hs]; omega) (zer_one _)
  simp only [Nat.add_zero] at hst
  have hcl : ∀ ty, (Builtin.clear_ #[30] ty #[.slice (some ⟨b, n * 10, none⟩) (len - n) (cap - n)]).run Try.prog w.drew = .ok (.tuple #[]) (w.drew.setRow b (cur.toList.take (n * 10) ++ (Builtin.zeroCells zer10 (len - n)).toList ++ cur.toList.drop (n * 10 + (Builtin.zeroCells zer10 (len - n)).toList.length)).toArray) := by
    intro ty
    obtain ⟨k, hk⟩ : ∃ k, len - n = k + 1 := ⟨len - n - 1, by omega⟩
    rw [hk] at hst ⊢
    have hz := zero45 w.drew
    generalize zer10 = zz at hst hz ⊢
    simp [Builtin.clear_, run_underlying Try.underlying30, hz, Value.cells, hst, -Try.zeroValue45]
  have HFIN : Hid ((∃ cur', (w.drew.setRow b (cur.toList.take (n * 10) ++ (Builtin.zeroCells zer10 (len - n)).toList ++ cur.toList.drop (n * 10 + (Builtin.zeroCells zer10 (len - n)).toList.length)).toArray).heap[b]? = some (.cells cur' 45 (0, 0)) ∧ cur'.size = cap * 10 ∧ cur'.toList.take (n * 10) = cur.toList.take (n * 10)) ∧ w.grownBy (w.drew.setRow b (cur.toList.take (n * 10) ++ (Builtin.zeroCells zer10 (len - n)).toList ++ cur.toList.drop (n * 10 + (Builtin.zeroCells zer10 (len - n)).toList.length)).toArray) (some b)) := by
    refine ⟨⟨_, setRow_heap w.drew b cur _ 45 (0, 0) hh, ?_, ?_⟩, ⟨rfl, rfl, rfl, by simp [World.setRow], fun k hk hne => setRow_other _ _ _ _ (fun e => hne (by rw [e]))⟩⟩
    · rw [hzl]
      have : cur.toList.length = cap * 10 := by rw [Array.length_toList, hs]
      simp only [List.size_toArray, List.length_append, List.length_take, List.length_drop, hzl]
      omega
    · rw [List.toList_toArray, List.append_assoc]
      have : (cur.toList.take (n * 10)).length = n * 10 := by rw [List.length_take, Array.length_toList]; omega
      exact List.take_left' this
  generalize (w.drew.setRow b (cur.toList.take (n * 10) ++ (Builtin.zeroCells zer10 (len - n)).toList ++ cur.toList.drop (n * 10 + (Builtin.zeroCells zer10 (len - n)).toList.length)).toArray) = W at *
  have hne : ((n : Int) == (len : Nat)) = false := by simp; omega
  have h0 : len - len = 0 := Nat.sub_self _
  have hnc : n ≤ cap := by omega
  clear hst hzl hh hs
  go_enter Try.func42, Try.ntmps42
  go_wp2_with fail
  go_region_law (refine step_append_none rfl (.tmp 22) (.tmp 25) rfl b n cap cur (by simp [Act.eval, Act.put]) HH.out A (cap - len) (by simp [Act.eval, Act.put, h0, hA]) (by omega) hfit ?_)
  go_wp2
  go_ret
  exact ⟨rfl, HFIN.out.1, HFIN.out.2⟩
end Go.Proofs.Ytlefaicdcomkjaa
