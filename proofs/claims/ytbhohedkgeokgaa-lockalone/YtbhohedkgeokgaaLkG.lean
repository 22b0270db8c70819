/- slices.Delete of one span, in its place: a contract. -/
import Derived.Test.YtbhohedkgeokgaaLkF
import Derived.Deep.RegionLaw
namespace Go.Proofs.Ytbhohedkgeokgaa
open Go Go.RowKit
set_option linter.unusedVariables false
set_option linter.unusedSimpArgs false

/-- append where there is room, a whole row written -/
theorem step_append_in {w : World} {ops : Array Oper} {o : Oper} {a : Act} {K : Act → World → Prop} {Q : Exit → Act → World → Prop} {E : Prop} (hgd : o.guard = none) (s x : Operand)
    (ho : o.op = .call { callee := .builtin .append, args := #[s, x], argTypes := #[52, 52] })
    (g n cap : Nat) (cur : Array Value) (hs : a.eval s = .slice (some ⟨g, 0, none⟩) n cap) (hg : w.heap[g]? = some (.cells cur 58 (0, 0)))
    (ad : Addr) (m c : Nat) (news : List Value) (hx : a.eval x = .slice (some ad) m c) (hl : news.length = m * 6) (hc : ∀ j u, news[j]? = some u → w.cell? (ad.add j) = some u) (h1 : ∀ u ∈ news, u.oneCell' = true)
    (hroom : n + m ≤ cap) (hfit : n * 6 + news.length ≤ cur.size)
    (h : K (a.put o.dst (.slice (some ⟨g, 0, none⟩) (n + m) cap)) (w.setRow g (cur.toList.take (n * 6) ++ news ++ cur.toList.drop (n * 6 + news.length)).toArray)) :
    if Region.wanted o (yielded ops a.tmps) = true then Oper.wp Try.prog o a w K Q else E := by
  have hw : Region.wanted o (yielded ops a.tmps) = true := by simp [Region.wanted, hgd]
  rw [if_pos hw]
  obtain ⟨i0, hi, hz0, hz1, hz2⟩ := info_parts Try.info_58
  have hrun := run_append_room (P := Try.prog) w 52 o.type 58 i0 Try.underlying52 hi g n cap cur hg ad m c news (by rw [hz1]; exact hl) hc h1 hroom (by rw [hz1]; exact hfit)
  rw [hz1] at hrun
  unfold Oper.wp
  simp [execOp, ho, resolve, invoke, builtin, hs, hx, hrun, Result.andThen]
  simp only [List.append_assoc] at h
  exact h

def zero6 : List Value := [.int .i64 0, .int .u64 0, .int .i64 0, .int .i64 0, .slice none 0 0, .slice none 0 0]
set_option maxRecDepth 100000 in
set_option maxHeartbeats 4000000 in
theorem delete_any (base b cap i : Nat) (cur : Array Value) (l : List Spn) (w : World) (hb : base ≤ b) (hh : w.heap[b]? = some (.cells cur 58 (0, 0))) (hs : cur.size = cap * 6) (hn : l.length ≤ cap) (hm : cap ≤ maxLen) (ht : cur.toList.take (l.length * 6) = l.flatMap Spn.cells) (h1 : ∀ u ∈ l.flatMap Spn.cells, u.oneCell' = true) (hi : i < l.length) (hlen : l.length ≤ 1000) :
    Calls Try.prog 32 #[.slice (some ⟨b, 0, none⟩) l.length cap, .int .i64 (i : Nat), .int .i64 ((i : Int) + 1)] w fun e w' => (∃ v, e = .returned v ∧ v.ownBlock = some b ∧ w'.ownsRow base 58 6 v (l.eraseIdx i).length ((l.eraseIdx i).flatMap Spn.cells)) ∧ w.grownBy w' (some b) := by
  have hm' : cap ≤ 2 ^ 63 - 1 := hm
  obtain ⟨news, hnews⟩ : ∃ news, news = (l.drop (i + 1)).flatMap Spn.cells := ⟨_, rfl⟩
  have hnl : news.length = (l.length - (i + 1)) * 6 := by rw [hnews, flat_length Spn.cells 6 (fun _ => rfl), List.length_drop]
  have S1 : Hid (news.length = (l.length - (i + 1)) * 6) := hnl
  have S2 : Hid (∀ u ∈ news, u.oneCell' = true) := by
    intro u hu
    rw [hnews] at hu
    obtain ⟨x, hx, hu⟩ := List.mem_flatMap.1 hu
    exact h1 u (List.mem_flatMap.2 ⟨x, List.mem_of_mem_drop hx, hu⟩)
  have split : l.flatMap Spn.cells = (l.take (i + 1)).flatMap Spn.cells ++ news := by
    rw [hnews, ← List.flatMap_append, List.take_append_drop]
  have hget : ∀ t u, news[t]? = some u → cur[(i + 1) * 6 + t]? = some u := by
    intro t u hu
    have htl := (List.getElem?_eq_some_iff.1 hu).1
    have e : (l.flatMap Spn.cells)[(i + 1) * 6 + t]? = some u := by
      have hl1 : ((l.take (i + 1)).flatMap Spn.cells).length = (i + 1) * 6 := by rw [flat_length Spn.cells 6 (fun _ => rfl), List.length_take, Nat.min_eq_left (by omega)]
      rw [split, List.getElem?_append_right (by rw [hl1]; omega), hl1, Nat.add_sub_cancel_left]
      exact hu
    rw [← ht, List.getElem?_take_of_lt (by omega), Array.getElem?_toList] at e
    exact e
  obtain ⟨A, hA, hsrc⟩ : ∃ A : Addr, (if cap = i + 1 then some (⟨b, 0, none⟩ : Addr) else some ⟨b, (i + 1) * 6, none⟩) = some A ∧ Hid (∀ t u, news[t]? = some u → w.drew.cell? (A.add t) = some u) := by
    by_cases h : cap = i + 1
    · refine ⟨⟨b, 0, none⟩, by simp [h], fun t u hu => ?_⟩
      have h0 : news.length = 0 := by rw [hnl]; omega
      rw [List.length_eq_zero_iff.1 h0] at hu
      simp at hu
    · refine ⟨⟨b, (i + 1) * 6, none⟩, by simp [h], fun t u hu => ?_⟩
      rw [Addr.add_lit]
      exact cell_of_heap (w := w.drew) hh (hget t u hu)
  obtain ⟨c1, hc1⟩ : ∃ c1, c1 = (cur.toList.take (i * 6) ++ news ++ cur.toList.drop (i * 6 + news.length)).toArray := ⟨_, rfl⟩
  obtain ⟨W1, hW1⟩ : ∃ W1, W1 = w.drew.setRow b c1 := ⟨_, rfl⟩
  have hfit : i * 6 + news.length ≤ cur.size := by omega
  have hcs1 : c1.size = cap * 6 := by rw [hc1]; simp; omega
  have hh1 : W1.heap[b]? = some (.cells c1 58 (0, 0)) := by rw [hW1]; exact setRow_heap w.drew b cur c1 58 (0, 0) hh
  have htk : c1.toList.take ((l.length - 1) * 6) = (l.eraseIdx i).flatMap Spn.cells := by
    have e1 : cur.toList.take (i * 6) = (l.take i).flatMap Spn.cells := by
      have : (cur.toList.take (l.length * 6)).take (i * 6) = (l.flatMap Spn.cells).take (i * 6) := by rw [ht]
      rw [List.take_take, Nat.min_eq_left (by omega)] at this
      rw [this]
      have hl1 : ((l.take i).flatMap Spn.cells).length = i * 6 := by rw [flat_length Spn.cells 6 (fun _ => rfl), List.length_take, Nat.min_eq_left (by omega)]
      have e2 : l.flatMap Spn.cells = (l.take i).flatMap Spn.cells ++ (l.drop i).flatMap Spn.cells := by rw [← List.flatMap_append, List.take_append_drop]
      rw [e2, ← hl1, List.take_left]
    rw [hc1, e1, List.eraseIdx_eq_take_drop_succ, List.flatMap_append, ← hnews]
    simp only [List.toList_toArray]
    have hl2 : ((l.take i).flatMap Spn.cells ++ news).length = (l.length - 1) * 6 := by
      rw [List.length_append, flat_length Spn.cells 6 (fun _ => rfl), List.length_take, Nat.min_eq_left (by omega), hnl]
      omega
    rw [← hl2, List.take_left]
  have hWg : w.grownBy W1 (some b) := by
    rw [hW1]
    exact ⟨rfl, rfl, rfl, by simp [World.setRow], fun k hk hne => setRow_other _ _ _ _ (fun e => hne (by rw [e]))⟩
  have HW : Hid (W1 = w.drew.setRow b (cur.toList.take (i * 6) ++ news ++ cur.toList.drop (i * 6 + news.length)).toArray) := by rw [← hc1]; exact hW1
  have HF : Hid (i * 6 + news.length ≤ cur.size) := hfit
  have HH : Hid (w.drew.heap[b]? = some (.cells cur 58 (0, 0))) := hh
  have hlast : l.length - (i + 1) + i + 1 = l.length := by omega
  obtain ⟨X, hX⟩ : ∃ X, X = i + (l.length - (i + 1)) := ⟨_, rfl⟩
  have hX1 : X = l.length - 1 := by omega
  have hcl : ∀ ty, (Builtin.clear_ #[52] ty #[.slice (some ⟨b, X * 6, none⟩) (l.length - X) (cap - X)]).run Try.prog W1 = .ok (.tuple #[]) (W1.setRow b (c1.toList.take (X * 6) ++ zero6 ++ c1.toList.drop (X * 6 + 6)).toArray) := by
    intro ty
    have hst := run_storeCells_at Try.prog b (X * 6) 58 zero6 0 c1 W1 hh1 (by rw [hcs1]; show X * 6 + 0 + 6 ≤ cap * 6; omega) (by simp [zero6, Value.oneCell'])
    simp only [Nat.add_zero] at hst
    rw [show l.length - X = 1 by omega]
    have hzc : (Builtin.zeroCells (Value.agg #[.int .i64 0, .int .u64 0, .int .i64 0, .int .i64 0, .slice none 0 0, .slice none 0 0]).cells 1).toList = zero6 := by kernel_rfl
    simp [Builtin.clear_, run_underlying Try.underlying52, Try.zeroValue58, hzc, hst]
    rfl
  rw [hX] at hcl
  have HR : Hid ((W1.setRow b (c1.toList.take (X * 6) ++ zero6 ++ c1.toList.drop (X * 6 + 6)).toArray).ownsRow base 58 6 (.slice (some ⟨b, 0, none⟩) X cap) (l.eraseIdx i).length ((l.eraseIdx i).flatMap Spn.cells)) := by
    have hle : (l.eraseIdx i).length = X := by rw [List.length_eraseIdx_of_lt hi]; omega
    refine ⟨by rw [flat_length Spn.cells 6 (fun _ => rfl)], .inr ⟨b, cap, _, by rw [hle], hb, setRow_heap W1 b c1 _ 58 (0, 0) hh1, by omega, hm, ?_, ?_⟩⟩
    · simp [zero6]
      omega
    · rw [hle, ← htk, hX1, List.toList_toArray, List.append_assoc]
      have : (c1.toList.take ((l.length - 1) * 6)).length = (l.length - 1) * 6 := by
        have e : c1.toList.length = c1.size := Array.length_toList
        rw [List.length_take]
        omega
      generalize (l.length - 1) * 6 = q at this ⊢
      exact List.take_left' this
  have HG : Hid (w.grownBy (W1.setRow b (c1.toList.take (X * 6) ++ zero6 ++ c1.toList.drop (X * 6 + 6)).toArray) (some b)) :=
    ⟨hWg.os, hWg.tape, hWg.output, by have := hWg.size; simp [World.setRow]; exact this, fun k hk hne => (setRow_other _ _ _ _ (fun e => hne (by rw [e]))).trans (hWg.block k hk hne)⟩
  rw [hX, List.append_assoc] at HR HG
  have hic : i ≤ cap := by omega
  have hi0 : (0 : Int) ≤ (i : Int) + 1 := by omega
  have hi1 : (i : Int) + 1 ≤ (l.length : Int) := by omega
  have hjc : i + 1 ≤ cap := by omega
  clear hnews hnl hget split hfit hW1 hh ht hX hX1 htk hWg hh1 hcs1 hc1
  go_enter Try.func32, Try.ntmps32
  go_wp2_with fail
  go_region_law (refine step_append_in rfl (.tmp 22) (.tmp 25) rfl b i cap cur (by simp [Act.eval, Act.put]) HH.out A (l.length - (i + 1)) (cap - (i + 1)) news (by simp [Act.eval, Act.put]) S1.out hsrc.out S2.out (by omega) HF.out ?_; rw [← HW.out])
  go_wp2
  go_ret
  exact ⟨⟨_, rfl, rfl, HR.out⟩, HG.out⟩
end Go.Proofs.Ytbhohedkgeokgaa
