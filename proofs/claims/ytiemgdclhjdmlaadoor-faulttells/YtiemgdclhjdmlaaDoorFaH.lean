/- A fault's path and its text: contracts. -/
import Derived.Test.YtiemgdclhjdmlaaDoorFaG
import Derived.Test.YtiemgdclhjdmlaaDoorShelf
import Derived.Test.YtiemgdclhjdmlaaDoorVec
namespace Go.Proofs.YtiemgdclhjdmlaaDoor
open Go.RowKit Go.Extern.Stop Go.Stop Go.Extern

theorem Fa.is37 (v : Value) (w : World) : (Instr.typeAssert (.iface 37 v) 27 37 true).run Tryd.prog w = .ok (.tuple #[v, .bool true]) w := by kernel_rfl
theorem Fa.not37 (v : Value) (w : World) : (Instr.typeAssert (.iface 25 v) 27 37 true).run Tryd.prog w = .ok (.tuple #[.pointer none, .bool false]) w := by kernel_rfl
theorem Fa.nil37 (w : World) : (Instr.typeAssert .nilIface 27 37 true).run Tryd.prog w = .ok (.tuple #[.pointer none, .bool false]) w := by kernel_rfl

/-- places, with > between -/
def path (ps : List ByteArray) : ByteArray := ⟨(Lib.join (ps.map (·.data.toList)) [62]).toArray⟩
/-- how many bytes they have -/
def plen (ps : List ByteArray) : Nat := (ps.map (·.size)).sum + ps.length

theorem lens_map (ps : List ByteArray) : Lib.lens (ps.map (·.data.toList)) = (ps.map (·.size)).sum := by
  induction ps with
  | nil => rfl
  | cons p ps ih => simp [Lib.lens] at ih ⊢; rw [ih]
theorem path_len (ps : List ByteArray) : (Lib.join (ps.map (·.data.toList)) [62]).length ≤ plen ps := by
  cases ps with
  | nil => simp [Lib.join, List.intercalate]
  | cons p ps =>
    have h := lens_map (p :: ps)
    rw [List.map_cons] at h
    rw [List.map_cons, Lib.join_length, h]
    simp [plen]
    omega
theorem path_size (ps : List ByteArray) : (path ps).size ≤ plen ps := by
  have := path_len ps
  simpa [path, ByteArray.size] using this
theorem path_one (p : ByteArray) : path [p] = p := by simp [path, Lib.join_one]
theorem path_snoc (ps : List ByteArray) (q : ByteArray) (h : ps ≠ []) : path (ps ++ [q]) = path ps ++ ⟨#[62]⟩ ++ q := by
  cases ps with
  | nil => exact absurd rfl h
  | cons p ps =>
    simp only [path, List.cons_append, List.map_cons, List.map_append, List.map_nil, Lib.join_cons, Lib.joinTail]
    rw [ByteArray.mk_append_mk]
    have : q = ⟨q.data.toList.toArray⟩ := by simp
    rw [this, ByteArray.mk_append_mk]
    simp

theorem path_nil (w : World) : Calls Tryd.prog 16 #[.nilIface] w fun e w' => e = .returned (.string ⟨#[]⟩) ∧ w' = w := by
  have hT := Fa.nil37
  go_enter Tryd.func16, Tryd.ntmps16
  go_wp2
  go_ret
  exact ⟨rfl, rfl⟩

set_option maxRecDepth 100000 in
set_option maxHeartbeats 1000000 in
theorem path_any (n : Int) (qs : List ByteArray) (v : Value) (w : World) (hg : G w) (hv : Errv w n qs v) (hlen : plen qs ≤ 1000000) :
    Calls Tryd.prog 16 #[v] w fun e w' => e = .returned (.string (path qs)) ∧ Below w.heap.size w w' := by
  cases hq : qs with
  | nil =>
    rw [hq] at hv
    have : v = .iface 25 (.int .i64 n) := hv
    subst this
    have e0 : path [] = ⟨#[]⟩ := rfl
    have hT := Fa.not37
    go_enter Tryd.func16, Tryd.ntmps16
    go_wp2
    go_ret
    exact ⟨by rw [e0]; rfl, Below.refl _ _⟩
  | cons s rs =>
    have hql : qs.length ≤ plen qs := by simp [plen]
    have hj := path_len qs
    obtain ⟨J, HJ⟩ : ∃ J : ByteArray, Hid (path (s :: rs) = J) := ⟨_, rfl⟩
    rw [HJ.out]
    have HQ : Hid (qs = s :: rs) := hq
    have HV : Hid (Errv w n qs v) := hv
    have HG : Hid (G w) := hg
    have HP0 : Hid (Ptr w n (qs.drop 0) (ptrOf v)) := hv.ptr
    obtain ⟨b, rfl⟩ : ∃ b, v = .iface 37 (.pointer (some ⟨b, 0, none⟩)) := by
      rw [hq] at hv
      obtain ⟨b, u, h, _⟩ := hv
      exact ⟨b, h⟩
    have HP : Hid (Ptr w n (qs.drop 0) (.pointer (some ⟨b, 0, none⟩))) := HP0.out
    obtain ⟨d, hd⟩ := Ptr.depth w n
    have HD : Hid (∀ qs v, Ptr w n qs v → d v = qs.length) := hd
    have hn0 : 0 < qs.length := by rw [hq]; simp
    have hnl : qs.length ≤ 1000000 := by omega
    have HJL : Hid ((Lib.join (qs.map (·.data.toList)) [62]).length ≤ 140737488355328) := by unfold Hid; omega
    clear hd hg hv hj hlen hql HP0 hq
    have hT := Fa.is37
    go_enter Tryd.func16, Tryd.ntmps16
    go_wp2_with fail
    refine (endless_any n qs _ w HG.out HV.out).mono ?_
    rintro e w1 ⟨rfl, hb1⟩
    have HB1 : Hid (Below w.heap.size w w1) := hb1
    clear hb1
    go_wp2_with fail
    go_loopw [3, 5] (fun f pl wr => ∃ i, i ≤ qs.length ∧ Hid (Ptr w n (qs.drop i) f) ∧ Hid (OwnV wr w.heap.size 9 pl ((qs.take i).map .string)) ∧ Hid (Below w.heap.size w wr)) (fun f pl wr => d f)
    case atStart => exact ⟨0, Nat.zero_le _, HP, OwnV.nil _ _ _, HB1⟩
    case round =>
      obtain ⟨i, hi, hf, ho, hB⟩ := hrel
      by_cases h0 : i < qs.length
      · have hne : qs.drop i ≠ [] := fun h => by have := List.drop_eq_nil_iff.1 h; omega
        have hsplit : qs.drop i = qs[i] :: qs.drop (i + 1) := List.drop_eq_getElem_cons h0
        have hf' := hf.out
        rw [hsplit] at hf'
        obtain ⟨x, HX⟩ : ∃ x, Hid (qs[i] = x) := ⟨qs[i], rfl⟩
        rw [HX.out] at hf' hsplit
        obtain ⟨c, u, rfl, hc, hu⟩ := hf'
        have hcell : wr.cell? ⟨c, 0, none⟩ = some (.string x) := cell_later hB.out (cell_of_heap hc rfl)
        have hdm := HD.out _ _ hf.out
        have HL : Hid ((qs.drop (i + 1)).length < d (.pointer (some ⟨c, 0, none⟩))) := by unfold Hid; rw [hdm]; simp; omega
        have hsz := hB.out.size
        have htl : ((qs.take i).map Value.string).length = i := by simp; omega
        have HT : Hid (((qs.take i).map Value.string).length = i) := htl
        have HS : Hid ((qs.take i).map Value.string ++ [.string x] = (qs.take (i + 1)).map Value.string) := by
          unfold Hid
          rw [List.take_succ_eq_append_getElem h0, HX.out]
          simp
        have HSP : Hid (qs.drop i = x :: qs.drop (i + 1)) := hsplit
        clear hc hu hdm hne htl hsplit
        go_wp2_with (first
          | (at_builtin; refine wp_append_one 22 9 _ 16 Tryd.underlying22 Try.info9 rfl rfl _ _ rfl w.heap.size _ _ rfl (ho.out.alloc _) _ _ (.string x) rfl (by simp) rfl (by rw [HT.out]; omega) (by rw [HT.out]; omega) (by simp; omega) ?_; intro v2 w2 ho2 hb2)
          | (go_at_call 36; refine (inner_any n (qs.drop i) _ w w2 (HG.out.later ((hB.out.alloc hsz _).trans hb2)) ((hB.out.alloc hsz _).trans hb2) hf.out).mono ?_; rintro e w3 ⟨p3, he3, hp3, hb3⟩; subst he3))
        have HO2 : Hid (OwnV w2 w.heap.size 9 v2 ((qs.take (i + 1)).map .string)) := by rw [HS.out] at ho2; exact ho2
        have HB2 : Hid (Below w.heap.size w w2) := (hB.out.alloc hsz _).trans hb2
        have HB3 : Hid (Below w.heap.size w w3) := HB2.out.trans (hb3.mono HB2.out.size)
        have HO3 : Hid (OwnV w3 w.heap.size 9 v2 ((qs.take (i + 1)).map .string)) := HO2.out.later hb3
        have HP3 : Hid (Ptr w n (qs.drop (i + 1)) p3) := by rw [drop_tail] at hp3; exact hp3
        refine ⟨⟨i + 1, by omega, HP3, HO3, HB3⟩, ?_⟩
        show d p3 < _
        rw [HD.out _ _ HP3.out]
        exact HL.out
      · have hiq : i = qs.length := by omega
        subst hiq
        have hf' := hf.out
        rw [List.drop_length] at hf'
        simp only [Ptr] at hf'
        subst hf'
        have ho' := ho.out
        rw [List.take_length] at ho'
        obtain ⟨g, cap, hpl, hg1, hg2, hg3, hg4, hg5⟩ := ho'.form (by intro h; simp at h; rw [h] at hn0; simp at hn0)
        rw [List.length_map] at hpl hg3
        subst hpl
        have HC : Hid (∀ (j : Nat) x, qs[j]? = some x → wr.cell? ⟨g, 0 + j, none⟩ = some (.string x)) := fun j x hj => by
          rw [Nat.zero_add]
          exact hg5 j _ (by rw [List.getElem?_map, hj]; rfl)
        clear ho ho' hf hg5
        go_wp2_with fail
        refine (Tryd.strings_Join g 0 cap qs ⟨#[62]⟩ wr HC.out hg2 (by omega) hg3 HJL.out).mono ?_
        rintro e w4 ⟨rfl, hb4⟩
        have HB4 : Hid (Below w.heap.size w w4) := hB.out.trans (hb4.mono hB.out.size)
        have HJ2 : Hid ((⟨(Lib.join (qs.map (·.data.toList)) [62]).toArray⟩ : ByteArray) = J) := by unfold Hid; rw [← HJ.out, HQ.out]; rfl
        clear hb4
        rw [HJ2.out]
        go_wp2
        go_ret
        exact ⟨rfl, HB4.out⟩
end Go.Proofs.YtiemgdclhjdmlaaDoor
