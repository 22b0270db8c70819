/- slices.Delete of one element of one cell, in its place. -/
import Derived.Test.YtgpjplpfjghcgaaCoD
import Derived.Deep.RegionLaw
namespace Go.Proofs.Ytgpjplpfjghcgaa
open Go Go.RowKit
set_option linter.unusedVariables false
set_option linter.unusedSimpArgs false

/-- append where there is room, a whole row written -/
theorem step_append_int {w : World} {ops : Array Oper} {o : Oper} {a : Act} {K : Act → World → Prop} {Q : Exit → Act → World → Prop} {E : Prop} (hgd : o.guard = none) (s x : Operand)
    (ho : o.op = .call { callee := .builtin .append, args := #[s, x], argTypes := #[26, 26] })
    (g n cap : Nat) (cur : Array Value) (hs : a.eval s = .slice (some ⟨g, 0, none⟩) n cap) (hg : w.heap[g]? = some (.cells cur 3 (0, 0)))
    (ad : Addr) (m c : Nat) (news : List Value) (hx : a.eval x = .slice (some ad) m c) (hl : news.length = m) (hc : ∀ j u, news[j]? = some u → w.cell? (ad.add j) = some u) (h1 : ∀ u ∈ news, u.oneCell' = true)
    (hroom : n + m ≤ cap) (hfit : n + news.length ≤ cur.size)
    (h : K (a.put o.dst (.slice (some ⟨g, 0, none⟩) (n + m) cap)) (w.setRow g (cur.toList.take n ++ news ++ cur.toList.drop (n + news.length)).toArray)) :
    if Region.wanted o (yielded ops a.tmps) = true then Oper.wp Try.prog o a w K Q else E := by
  have hw : Region.wanted o (yielded ops a.tmps) = true := by simp [Region.wanted, hgd]
  rw [if_pos hw]
  obtain ⟨i0, hi, hz0, hz1, hz2⟩ := info_parts Try.info_3
  have hrun := run_append_room (P := Try.prog) w 26 o.type 3 i0 Try.underlying26 hi g n cap cur hg ad m c news (by rw [hz1, Nat.mul_one]; exact hl) hc h1 hroom (by rw [hz1, Nat.mul_one]; exact hfit)
  rw [hz1, Nat.mul_one] at hrun
  unfold Oper.wp
  simp [execOp, ho, resolve, invoke, builtin, hs, hx, hrun, Result.andThen]
  simp only [List.append_assoc] at h
  exact h

set_option maxRecDepth 100000 in
set_option maxHeartbeats 4000000 in
theorem delete_int (base b cap i : Nat) (cur : Array Value) (xs : List Value) (w : World) (hb : base ≤ b) (hh : w.heap[b]? = some (.cells cur 3 (0, 0))) (hs : cur.size = cap) (hn : xs.length ≤ cap) (hm : cap ≤ maxLen) (ht : cur.toList.take xs.length = xs) (h1 : ∀ u ∈ xs, u.oneCell' = true) (hi : i < xs.length) (hlen : xs.length ≤ 1000) :
    Calls Try.prog 54 #[.slice (some ⟨b, 0, none⟩) xs.length cap, .int .i64 (i : Nat), .int .i64 ((i : Int) + 1)] w fun e w' => (∃ v, e = .returned v ∧ v.ownBlock = some b ∧ OwnV w' base 3 v (xs.eraseIdx i)) ∧ w.grownBy w' (some b) := by
  have hm' : cap ≤ 2 ^ 63 - 1 := hm
  obtain ⟨news, hnews⟩ : ∃ news, news = xs.drop (i + 1) := ⟨_, rfl⟩
  have hnl : news.length = xs.length - (i + 1) := by rw [hnews, List.length_drop]
  have S1 : Hid (news.length = xs.length - (i + 1)) := hnl
  have S2 : Hid (∀ u ∈ news, u.oneCell' = true) := by
    intro u hu
    rw [hnews] at hu
    exact h1 u (List.mem_of_mem_drop hu)
  have hget : ∀ t u, news[t]? = some u → cur[i + 1 + t]? = some u := by
    intro t u hu
    have htl := (List.getElem?_eq_some_iff.1 hu).1
    have e : xs[i + 1 + t]? = some u := by rw [hnews, List.getElem?_drop] at hu; exact hu
    rw [← ht, List.getElem?_take_of_lt (by omega), Array.getElem?_toList] at e
    exact e
  obtain ⟨A, hA, hsrc⟩ : ∃ A : Addr, (if cap = i + 1 then some (⟨b, 0, none⟩ : Addr) else some ⟨b, i + 1, none⟩) = some A ∧ Hid (∀ t u, news[t]? = some u → w.drew.cell? (A.add t) = some u) := by
    by_cases h : cap = i + 1
    · refine ⟨⟨b, 0, none⟩, by simp [h], fun t u hu => ?_⟩
      have h0 : news.length = 0 := by rw [hnl]; omega
      rw [List.length_eq_zero_iff.1 h0] at hu
      simp at hu
    · refine ⟨⟨b, i + 1, none⟩, by simp [h], fun t u hu => ?_⟩
      rw [Addr.add_lit]
      exact cell_of_heap (w := w.drew) hh (hget t u hu)
  obtain ⟨c1, hc1⟩ : ∃ c1, c1 = (cur.toList.take i ++ news ++ cur.toList.drop (i + news.length)).toArray := ⟨_, rfl⟩
  obtain ⟨W1, hW1⟩ : ∃ W1, W1 = w.drew.setRow b c1 := ⟨_, rfl⟩
  have hfit : i + news.length ≤ cur.size := by omega
  have hcs1 : c1.size = cap := by rw [hc1]; simp; omega
  have hh1 : W1.heap[b]? = some (.cells c1 3 (0, 0)) := by rw [hW1]; exact setRow_heap w.drew b cur c1 3 (0, 0) hh
  have htk : c1.toList.take (xs.length - 1) = xs.eraseIdx i := by
    have e1 : cur.toList.take i = xs.take i := by
      have : (cur.toList.take xs.length).take i = xs.take i := by rw [ht]
      rw [List.take_take, Nat.min_eq_left (by omega)] at this
      exact this
    rw [hc1, e1, List.eraseIdx_eq_take_drop_succ, ← hnews]
    simp only [List.toList_toArray]
    have hl2 : (xs.take i ++ news).length = xs.length - 1 := by
      rw [List.length_append, List.length_take, Nat.min_eq_left (by omega), hnl]
      omega
    rw [← hl2, List.take_left]
  have hWg : w.grownBy W1 (some b) := by
    rw [hW1]
    exact ⟨rfl, rfl, rfl, by simp [World.setRow], fun k hk hne => setRow_other _ _ _ _ (fun e => hne (by rw [e]))⟩
  have HW : Hid (W1 = w.drew.setRow b (cur.toList.take i ++ news ++ cur.toList.drop (i + news.length)).toArray) := by rw [← hc1]; exact hW1
  have HF : Hid (i + news.length ≤ cur.size) := hfit
  have HH : Hid (w.drew.heap[b]? = some (.cells cur 3 (0, 0))) := hh
  have hlast : xs.length - (i + 1) + i + 1 = xs.length := by omega
  obtain ⟨X, hX⟩ : ∃ X, X = i + (xs.length - (i + 1)) := ⟨_, rfl⟩
  have hX1 : X = xs.length - 1 := by omega
  have hcl : ∀ ty, (Builtin.clear_ #[26] ty #[.slice (some ⟨b, X, none⟩) (xs.length - X) (cap - X)]).run Try.prog W1 = .ok (.tuple #[]) (W1.setRow b (c1.toList.take X ++ [Value.int .i64 0] ++ c1.toList.drop (X + 1)).toArray) := by
    intro ty
    have hst := run_storeCells_at Try.prog b X 3 [Value.int .i64 0] 0 c1 W1 hh1 (by rw [hcs1]; show X + 0 + 1 ≤ cap; omega) (by simp [Value.oneCell'])
    simp only [Nat.add_zero] at hst
    rw [show xs.length - X = 1 by omega]
    have hzc : (Builtin.zeroCells (Value.int .i64 0 : Value).cells 1).toList = [Value.int .i64 0] := by kernel_rfl
    simp [Builtin.clear_, run_underlying Try.underlying26, Try.zeroValue3, hzc, hst]
  rw [hX] at hcl
  have HR : Hid ((W1.setRow b (c1.toList.take X ++ [Value.int .i64 0] ++ c1.toList.drop (X + 1)).toArray).ownsRow base 3 1 (.slice (some ⟨b, 0, none⟩) X cap) (xs.eraseIdx i).length (xs.eraseIdx i)) := by
    have hle : (xs.eraseIdx i).length = X := by rw [List.length_eraseIdx_of_lt hi]; omega
    refine ⟨by rw [Nat.mul_one], .inr ⟨b, cap, _, by rw [hle], hb, setRow_heap W1 b c1 _ 3 (0, 0) hh1, by omega, hm, ?_, ?_⟩⟩
    · simp
      omega
    · rw [hle, Nat.mul_one, ← htk, hX1, List.toList_toArray, List.append_assoc]
      have : (c1.toList.take (xs.length - 1)).length = xs.length - 1 := by
        have e : c1.toList.length = c1.size := Array.length_toList
        rw [List.length_take]
        omega
      generalize xs.length - 1 = q at this ⊢
      exact List.take_left' this
  have HG : Hid (w.grownBy (W1.setRow b (c1.toList.take X ++ [Value.int .i64 0] ++ c1.toList.drop (X + 1)).toArray) (some b)) :=
    ⟨hWg.os, hWg.tape, hWg.output, by have := hWg.size; simp [World.setRow]; exact this, fun k hk hne => (setRow_other _ _ _ _ (fun e => hne (by rw [e]))).trans (hWg.block k hk hne)⟩
  rw [hX, List.append_assoc] at HR HG
  have hic : i ≤ cap := by omega
  have hi0 : (0 : Int) ≤ (i : Int) + 1 := by omega
  have hi1 : (i : Int) + 1 ≤ (xs.length : Int) := by omega
  have hjc : i + 1 ≤ cap := by omega
  clear hnews hnl hget hfit hW1 hh ht hX hX1 htk hWg hh1 hcs1 hc1
  go_enter Try.func54, Try.ntmps54
  go_wp2_with fail
  go_region_law (refine step_append_int rfl (.tmp 22) (.tmp 25) rfl b i cap cur (by simp [Act.eval, Act.put]) HH.out A (xs.length - (i + 1)) (cap - (i + 1)) news (by simp [Act.eval, Act.put]) S1.out hsrc.out S2.out (by omega) HF.out ?_; rw [← HW.out])
  go_wp2
  go_ret
  exact ⟨⟨_, rfl, rfl, HR.out⟩, HG.out⟩

/-- append where there is room, a whole row written -/
theorem step_append_bool {w : World} {ops : Array Oper} {o : Oper} {a : Act} {K : Act → World → Prop} {Q : Exit → Act → World → Prop} {E : Prop} (hgd : o.guard = none) (s x : Operand)
    (ho : o.op = .call { callee := .builtin .append, args := #[s, x], argTypes := #[27, 27] })
    (g n cap : Nat) (cur : Array Value) (hs : a.eval s = .slice (some ⟨g, 0, none⟩) n cap) (hg : w.heap[g]? = some (.cells cur 4 (0, 0)))
    (ad : Addr) (m c : Nat) (news : List Value) (hx : a.eval x = .slice (some ad) m c) (hl : news.length = m) (hc : ∀ j u, news[j]? = some u → w.cell? (ad.add j) = some u) (h1 : ∀ u ∈ news, u.oneCell' = true)
    (hroom : n + m ≤ cap) (hfit : n + news.length ≤ cur.size)
    (h : K (a.put o.dst (.slice (some ⟨g, 0, none⟩) (n + m) cap)) (w.setRow g (cur.toList.take n ++ news ++ cur.toList.drop (n + news.length)).toArray)) :
    if Region.wanted o (yielded ops a.tmps) = true then Oper.wp Try.prog o a w K Q else E := by
  have hw : Region.wanted o (yielded ops a.tmps) = true := by simp [Region.wanted, hgd]
  rw [if_pos hw]
  obtain ⟨i0, hi, hz0, hz1, hz2⟩ := info_parts Try.info_4
  have hrun := run_append_room (P := Try.prog) w 27 o.type 4 i0 Try.underlying27 hi g n cap cur hg ad m c news (by rw [hz1, Nat.mul_one]; exact hl) hc h1 hroom (by rw [hz1, Nat.mul_one]; exact hfit)
  rw [hz1, Nat.mul_one] at hrun
  unfold Oper.wp
  simp [execOp, ho, resolve, invoke, builtin, hs, hx, hrun, Result.andThen]
  simp only [List.append_assoc] at h
  exact h

set_option maxRecDepth 100000 in
set_option maxHeartbeats 4000000 in
theorem delete_bool (base b cap i : Nat) (cur : Array Value) (xs : List Value) (w : World) (hb : base ≤ b) (hh : w.heap[b]? = some (.cells cur 4 (0, 0))) (hs : cur.size = cap) (hn : xs.length ≤ cap) (hm : cap ≤ maxLen) (ht : cur.toList.take xs.length = xs) (h1 : ∀ u ∈ xs, u.oneCell' = true) (hi : i < xs.length) (hlen : xs.length ≤ 1000) :
    Calls Try.prog 55 #[.slice (some ⟨b, 0, none⟩) xs.length cap, .int .i64 (i : Nat), .int .i64 ((i : Int) + 1)] w fun e w' => (∃ v, e = .returned v ∧ v.ownBlock = some b ∧ OwnV w' base 4 v (xs.eraseIdx i)) ∧ w.grownBy w' (some b) := by
  have hm' : cap ≤ 2 ^ 63 - 1 := hm
  obtain ⟨news, hnews⟩ : ∃ news, news = xs.drop (i + 1) := ⟨_, rfl⟩
  have hnl : news.length = xs.length - (i + 1) := by rw [hnews, List.length_drop]
  have S1 : Hid (news.length = xs.length - (i + 1)) := hnl
  have S2 : Hid (∀ u ∈ news, u.oneCell' = true) := by
    intro u hu
    rw [hnews] at hu
    exact h1 u (List.mem_of_mem_drop hu)
  have hget : ∀ t u, news[t]? = some u → cur[i + 1 + t]? = some u := by
    intro t u hu
    have htl := (List.getElem?_eq_some_iff.1 hu).1
    have e : xs[i + 1 + t]? = some u := by rw [hnews, List.getElem?_drop] at hu; exact hu
    rw [← ht, List.getElem?_take_of_lt (by omega), Array.getElem?_toList] at e
    exact e
  obtain ⟨A, hA, hsrc⟩ : ∃ A : Addr, (if cap = i + 1 then some (⟨b, 0, none⟩ : Addr) else some ⟨b, i + 1, none⟩) = some A ∧ Hid (∀ t u, news[t]? = some u → w.drew.cell? (A.add t) = some u) := by
    by_cases h : cap = i + 1
    · refine ⟨⟨b, 0, none⟩, by simp [h], fun t u hu => ?_⟩
      have h0 : news.length = 0 := by rw [hnl]; omega
      rw [List.length_eq_zero_iff.1 h0] at hu
      simp at hu
    · refine ⟨⟨b, i + 1, none⟩, by simp [h], fun t u hu => ?_⟩
      rw [Addr.add_lit]
      exact cell_of_heap (w := w.drew) hh (hget t u hu)
  obtain ⟨c1, hc1⟩ : ∃ c1, c1 = (cur.toList.take i ++ news ++ cur.toList.drop (i + news.length)).toArray := ⟨_, rfl⟩
  obtain ⟨W1, hW1⟩ : ∃ W1, W1 = w.drew.setRow b c1 := ⟨_, rfl⟩
  have hfit : i + news.length ≤ cur.size := by omega
  have hcs1 : c1.size = cap := by rw [hc1]; simp; omega
  have hh1 : W1.heap[b]? = some (.cells c1 4 (0, 0)) := by rw [hW1]; exact setRow_heap w.drew b cur c1 4 (0, 0) hh
  have htk : c1.toList.take (xs.length - 1) = xs.eraseIdx i := by
    have e1 : cur.toList.take i = xs.take i := by
      have : (cur.toList.take xs.length).take i = xs.take i := by rw [ht]
      rw [List.take_take, Nat.min_eq_left (by omega)] at this
      exact this
    rw [hc1, e1, List.eraseIdx_eq_take_drop_succ, ← hnews]
    simp only [List.toList_toArray]
    have hl2 : (xs.take i ++ news).length = xs.length - 1 := by
      rw [List.length_append, List.length_take, Nat.min_eq_left (by omega), hnl]
      omega
    rw [← hl2, List.take_left]
  have hWg : w.grownBy W1 (some b) := by
    rw [hW1]
    exact ⟨rfl, rfl, rfl, by simp [World.setRow], fun k hk hne => setRow_other _ _ _ _ (fun e => hne (by rw [e]))⟩
  have HW : Hid (W1 = w.drew.setRow b (cur.toList.take i ++ news ++ cur.toList.drop (i + news.length)).toArray) := by rw [← hc1]; exact hW1
  have HF : Hid (i + news.length ≤ cur.size) := hfit
  have HH : Hid (w.drew.heap[b]? = some (.cells cur 4 (0, 0))) := hh
  have hlast : xs.length - (i + 1) + i + 1 = xs.length := by omega
  obtain ⟨X, hX⟩ : ∃ X, X = i + (xs.length - (i + 1)) := ⟨_, rfl⟩
  have hX1 : X = xs.length - 1 := by omega
  have hcl : ∀ ty, (Builtin.clear_ #[27] ty #[.slice (some ⟨b, X, none⟩) (xs.length - X) (cap - X)]).run Try.prog W1 = .ok (.tuple #[]) (W1.setRow b (c1.toList.take X ++ [Value.bool false] ++ c1.toList.drop (X + 1)).toArray) := by
    intro ty
    have hst := run_storeCells_at Try.prog b X 4 [Value.bool false] 0 c1 W1 hh1 (by rw [hcs1]; show X + 0 + 1 ≤ cap; omega) (by simp [Value.oneCell'])
    simp only [Nat.add_zero] at hst
    rw [show xs.length - X = 1 by omega]
    have hzc : (Builtin.zeroCells (Value.bool false : Value).cells 1).toList = [Value.bool false] := by kernel_rfl
    simp [Builtin.clear_, run_underlying Try.underlying27, Try.zeroValue4, hzc, hst]
  rw [hX] at hcl
  have HR : Hid ((W1.setRow b (c1.toList.take X ++ [Value.bool false] ++ c1.toList.drop (X + 1)).toArray).ownsRow base 4 1 (.slice (some ⟨b, 0, none⟩) X cap) (xs.eraseIdx i).length (xs.eraseIdx i)) := by
    have hle : (xs.eraseIdx i).length = X := by rw [List.length_eraseIdx_of_lt hi]; omega
    refine ⟨by rw [Nat.mul_one], .inr ⟨b, cap, _, by rw [hle], hb, setRow_heap W1 b c1 _ 4 (0, 0) hh1, by omega, hm, ?_, ?_⟩⟩
    · simp
      omega
    · rw [hle, Nat.mul_one, ← htk, hX1, List.toList_toArray, List.append_assoc]
      have : (c1.toList.take (xs.length - 1)).length = xs.length - 1 := by
        have e : c1.toList.length = c1.size := Array.length_toList
        rw [List.length_take]
        omega
      generalize xs.length - 1 = q at this ⊢
      exact List.take_left' this
  have HG : Hid (w.grownBy (W1.setRow b (c1.toList.take X ++ [Value.bool false] ++ c1.toList.drop (X + 1)).toArray) (some b)) :=
    ⟨hWg.os, hWg.tape, hWg.output, by have := hWg.size; simp [World.setRow]; exact this, fun k hk hne => (setRow_other _ _ _ _ (fun e => hne (by rw [e]))).trans (hWg.block k hk hne)⟩
  rw [hX, List.append_assoc] at HR HG
  have hic : i ≤ cap := by omega
  have hi0 : (0 : Int) ≤ (i : Int) + 1 := by omega
  have hi1 : (i : Int) + 1 ≤ (xs.length : Int) := by omega
  have hjc : i + 1 ≤ cap := by omega
  clear hnews hnl hget hfit hW1 hh ht hX hX1 htk hWg hh1 hcs1 hc1
  go_enter Try.func55, Try.ntmps55
  go_wp2_with fail
  go_region_law (refine step_append_bool rfl (.tmp 22) (.tmp 25) rfl b i cap cur (by simp [Act.eval, Act.put]) HH.out A (xs.length - (i + 1)) (cap - (i + 1)) news (by simp [Act.eval, Act.put]) S1.out hsrc.out S2.out (by omega) HF.out ?_; rw [← HW.out])
  go_wp2
  go_ret
  exact ⟨⟨_, rfl, rfl, HR.out⟩, HG.out⟩
end Go.Proofs.Ytgpjplpfjghcgaa
