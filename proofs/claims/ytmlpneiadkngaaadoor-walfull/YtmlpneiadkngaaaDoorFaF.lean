/- Whether a fault leads round to itself, and its number: contracts. -/
import Derived.Test.YtmlpneiadkngaaaDoorFaE
namespace Go.Proofs.YtmlpneiadkngaaaDoor
open Go.RowKit Go.Extern.Stop Go.Stop Go.Extern

theorem Fa.size39 : (Tryd.prog.info? 87).map (·.size) = some 2 := by kernel_rfl

theorem eql_other {w : World} {n : Int} {qs rs : List ByteArray} {a b : Nat} (ha : Ptr w n qs (.pointer (some ⟨a, 0, none⟩))) (hb : Ptr w n rs (.pointer (some ⟨b, 0, none⟩))) (hne : qs.length ≠ rs.length) :
    (binOp .eql 85 (.pointer (some ⟨a, 0, none⟩)) (.pointer (some ⟨b, 0, none⟩))).run Tryd.prog w = .ok (.bool false) w := by
  obtain ⟨j, hj, hz⟩ := Option.map_eq_some_iff.1 Fa.size39
  cases qs with
  | nil => simp [Ptr] at ha
  | cons s qs =>
    cases rs with
    | nil => simp [Ptr] at hb
    | cons t rs =>
      have hab : a ≠ b := by
        intro h
        subst h
        exact hne (by rw [ha.same hb])
      obtain ⟨b1, u1, e1, h1, _⟩ := ha
      obtain ⟨b2, u2, e2, h2, _⟩ := hb
      simp only [Value.pointer.injEq, Option.some.injEq, Addr.mk.injEq, and_true] at e1 e2
      subst e1; subst e2
      exact run_eql_ptr_other w (te := 87) (j := j) Tryd.underlying85 hj (by omega) (by simp) h1 h2

theorem Ptr.some {w : World} {n : Int} {qs : List ByteArray} {p : Value} (h : Ptr w n qs p) (h0 : qs ≠ []) : ∃ b, p = .pointer (some ⟨b, 0, none⟩) := by
  cases qs with
  | nil => exact absurd rfl h0
  | cons s qs => obtain ⟨b, u, h, _⟩ := h; exact ⟨b, h⟩

theorem drop_tail (qs : List ByteArray) (k : Nat) : (qs.drop k).tail = qs.drop (k + 1) := by simp

set_option maxHeartbeats 1000000 in
theorem endless_any (n : Int) (qs : List ByteArray) (v : Value) (w : World) (hg : G w) (hv : Errv w n qs v) :
    Calls Tryd.prog 40 #[v] w fun e w' => e = .returned (.bool false) ∧ Below w.heap.size w w' := by
  obtain ⟨d, hd⟩ := Ptr.depth w n
  have HD : Hid (∀ qs v, Ptr w n qs v → d v = qs.length) := hd
  have HG : Hid (G w) := hg
  have HV : Hid (Errv w n qs v) := hv
  clear hd hg hv
  go_enter Tryd.func40, Tryd.ntmps40
  go_wp2_with fail
  refine (outermost_any n qs v w HG.out HV.out).mono ?_
  rintro e w1 ⟨rfl, hb1⟩
  have HB1 : Hid (Below w.heap.size w w1) := hb1
  have HP1 : Hid (Ptr w n (qs.drop 0) (ptrOf v)) := HV.out.ptr
  generalize ptrOf v = p1 at HP1 ⊢
  clear hb1
  go_wp2_with fail
  refine (inner_any n (qs.drop 0) p1 w w1 (HG.out.later HB1.out) HB1.out HP1.out).mono ?_
  rintro e w2 ⟨p2, rfl, hp2, hb2⟩
  have HB2 : Hid (Below w.heap.size w w2) := HB1.out.trans (hb2.mono HB1.out.size)
  have HP2 : Hid (Ptr w n (qs.drop (2 * 0 + 1)) p2) := by rw [drop_tail] at hp2; exact hp2
  clear hp2 hb2
  go_wp2_with fail
  go_loopw [3, 4] (fun s f wr => ∃ i, Hid (Ptr w n (qs.drop i) s) ∧ Hid (Ptr w n (qs.drop (2 * i + 1)) f) ∧ Hid (Below w.heap.size w wr)) (fun s f wr => d f)
  case atStart => exact ⟨0, HP1, HP2, HB2⟩
  case round =>
    obtain ⟨i, hs, hf, hB⟩ := hrel
    by_cases h0 : qs.drop (2 * i + 1) = []
    · rw [h0] at hf
      have := hf.out
      simp only [Ptr] at this
      subst this
      clear hf
      go_wp2
      go_ret
      exact ⟨rfl, hB.out⟩
    · have h1 : qs.drop i ≠ [] := by
        intro h
        exact h0 (List.drop_eq_nil_iff.2 (by have := List.drop_eq_nil_iff.1 h; omega))
      have hl : (qs.drop (2 * i + 1)).length ≠ (qs.drop i).length := by
        have : 2 * i + 1 < qs.length := Nat.lt_of_not_le fun h => h0 (List.drop_eq_nil_iff.2 h)
        simp; omega
      obtain ⟨a, rfl⟩ := hs.out.some h1
      obtain ⟨b, rfl⟩ := hf.out.some h0
      have hq := eql_other (hf.out.later hB.out) (hs.out.later hB.out) hl
      have hdm := HD.out _ _ hf.out
      have hll : (qs.drop (2 * (i + 1) + 1)).length < (qs.drop (2 * i + 1)).length := by
        have : 2 * i + 1 < qs.length := Nat.lt_of_not_le fun h => h0 (List.drop_eq_nil_iff.2 h)
        simp; omega
      have HL : Hid ((qs.drop (2 * (i + 1) + 1)).length < d (.pointer (some ⟨b, 0, none⟩))) := by rw [hdm]; exact hll
      clear hdm hll h0 h1 hl
      go_wp2_with fail
      refine (inner_any n (qs.drop i) _ w wr (HG.out.later hB.out) hB.out hs.out).mono ?_
      rintro e w3 ⟨p3, rfl, hp3, hb3⟩
      have HB3 : Hid (Below w.heap.size w w3) := hB.out.trans (hb3.mono hB.out.size)
      have HP3 : Hid (Ptr w n (qs.drop (i + 1)) p3) := by rw [drop_tail] at hp3; exact hp3
      clear hp3 hb3 hq
      go_wp2_with fail
      refine (inner_any n (qs.drop (2 * i + 1)) _ w w3 (HG.out.later HB3.out) HB3.out hf.out).mono ?_
      rintro e w4 ⟨p4, rfl, hp4, hb4⟩
      have HB4 : Hid (Below w.heap.size w w4) := HB3.out.trans (hb4.mono HB3.out.size)
      have HP4 : Hid (Ptr w n (qs.drop (2 * i + 1 + 1)) p4) := by rw [drop_tail] at hp4; exact hp4
      clear hp4 hb4
      go_wp2_with fail
      refine (inner_any n (qs.drop (2 * i + 1 + 1)) _ w w4 (HG.out.later HB4.out) HB4.out HP4.out).mono ?_
      rintro e w5 ⟨p5, rfl, hp5, hb5⟩
      have HB5 : Hid (Below w.heap.size w w5) := HB4.out.trans (hb5.mono HB4.out.size)
      have HP5 : Hid (Ptr w n (qs.drop (2 * (i + 1) + 1)) p5) := by rw [drop_tail] at hp5; exact hp5
      clear hp5 hb5
      go_wp2
      refine ⟨⟨i + 1, HP3, HP5, HB5⟩, ?_⟩
      show d p5 < _
      rw [HD.out _ _ HP5.out]
      exact HL.out
end Go.Proofs.YtmlpneiadkngaaaDoor
