/- Entries as the document's: rows of them. -/
import Derived.Test.YtlefaicdcomkjaaLiK
namespace Go.Proofs.Ytlefaicdcomkjaa
open Go Go.RowKit
set_option linter.unusedVariables false
set_option linter.unusedSimpArgs false

/-- an entry of the document: its lists in memory -/
structure Ev.rmem (w : World) (e : Ev) : Prop where
  r : w.ownsRow 0 99 2 e.v1 e.l1.length (e.l1.flatMap Rdv.cells)
  w : w.ownsRow 0 100 3 e.v2 e.l2.length (e.l2.flatMap Wrv.cells)
theorem Ev.rmem.later {w w' : World} {e : Ev} (h : e.rmem w) (hb : Below w.heap.size w w') : e.rmem w' := ⟨owns_later h.r hb, owns_later h.w hb⟩
theorem Ev.rmem.fr {w w' : World} {e : Ev} {base : Nat} {T : List Nat} (h : e.rmem w) (hf : Fr base T w w') (h1 : 99 ∉ T) (h2 : 100 ∉ T) : e.rmem w' := ⟨hf.owns h.r h1, hf.owns h.w h2⟩
/-- what an entry is, wherever its lists lie -/
def core (e : Ev) : Int × Int × Id × Bool × Id × Int × List Rdv × List Wrv := (e.ep, e.kd, e.tid, e.plain, e.id, e.code, e.l1, e.l2)
theorem Ev.rone {w : World} {e : Ev} (h : e.rmem w) : ∀ u ∈ e.cells, u.oneCell' = true := by
  intro u hu
  simp only [Ev.cells, List.mem_cons, List.not_mem_nil, or_false] at hu
  rcases hu with rfl | rfl | rfl | rfl | rfl | rfl | rfl | rfl | rfl | rfl
  all_goals first | rfl | exact rows_one h.r | exact rows_one h.w
theorem Try.info_54 : (Try.prog.info? 54).map (fun i => (i.zero, i.size, i.bytes)) = some (some (.agg #[.int .u64 0, .int .i64 0, .int .i64 0, .int .u64 0, .bool false, .slice none 0 0, .slice none 0 0, .int .i64 0, .int .u64 0, .int .i64 0]), 10, 112) := by kernel_rfl
theorem take_core {P : List Ev} {k : Nat} {x : Ev} (h : P[k]? = some x) : (P.take (k + 1)).map core = (P.take k).map core ++ [core x] := take_map core h
set_option maxRecDepth 100000 in
set_option maxHeartbeats 8000000 in
theorem plain_rows (a : Option Addr) (n c : Nat) (P : List Ev) (w : World) (h : At Ev.cells w a P) (hn : n = P.length) (hl : P.length ≤ 1000) (hm : ∀ e ∈ P, e.mem w ∧ e.l1.length ≤ 10 ∧ e.l2.length ≤ 10) :
    Calls Try.prog 10 #[.slice a n c] w fun e w' => ∃ (Q : List Ev) (v : Value), e = .returned v ∧ w'.ownsRow w.heap.size 54 10 v Q.length (Q.flatMap Ev.cells) ∧ Q.map core = P.map core ∧ (∀ e ∈ Q, e.rmem w') ∧ Below w.heap.size w w' := by
  have HA : Hid (At Ev.cells w a P) := h
  have HN : Hid (n = P.length) := hn
  have HM : Hid (∀ e ∈ P, e.mem w ∧ e.l1.length ≤ 10 ∧ e.l2.length ≤ 10) := hm
  have hn2 : n ≤ 1000 := by omega
  clear h hn hm hl
  generalize hp : w.heap.size = p at *
  have HP : Hid (w.heap.size = p) := hp
  clear hp
  go_enter Try.func10, Try.ntmps10
  go_wp2
  go_loopw [3, 8] (fun v t wr => ∃ k : Nat, t = .int .i64 (k : Nat) ∧ k ≤ n ∧ Hid (∃ Q : List Ev, wr.ownsRow p 54 10 v Q.length (Q.flatMap Ev.cells) ∧ Q.map core = (P.take k).map core ∧ ∀ e ∈ Q, e.rmem wr) ∧ Hid (Below p w wr)) (fun _ t _ => n - (intOf t).toNat)
  case atStart => exact ⟨0, rfl, by omega, ⟨[], World.ownsRow_nil _ _ _ _, rfl, by simp⟩, by rw [Hid, ← HP.out]; exact Below.refl _ _⟩
  case round =>
    obtain ⟨k, rfl, hk, HR, HW⟩ := hrel
    obtain ⟨Q, hq1, hq2, hq3⟩ := HR.out
    obtain ⟨xa, xn, xc, rfl⟩ := owns_slice hq1
    have HQ1 : Hid (wr.ownsRow p 54 10 (.slice xa xn xc) Q.length (Q.flatMap Ev.cells)) := hq1
    have HQ2 : Hid (Q.map core = (P.take k).map core) := hq2
    have HQ3 : Hid (∀ e ∈ Q, e.rmem wr) := hq3
    have hql : Q.length ≤ 1000 := by
      have := congrArg List.length hq2
      simp only [List.length_map, List.length_take] at this
      omega
    clear HR hq1 hq2 hq3
    by_cases hlt : k < n
    · have hkP : k < P.length := by rw [← HN.out]; exact hlt
      have hx : P[k]? = some P[k] := List.getElem?_eq_getElem hkP
      generalize P[k] = x at hx
      have HX : Hid (P[k]? = some x) := hx
      obtain ⟨hxm, hx1, hx2⟩ := HM.out x (List.mem_of_getElem? hx)
      have HXM : Hid (x.mem wr) := hxm.later (by rw [HP.out]; exact HW.out)
      have HX1 : Hid (x.l1.length ≤ 10 ∧ x.l2.length ≤ 10) := ⟨hx1, hx2⟩
      obtain ⟨b, off, rfl, hcell⟩ : ∃ b off, a = some ⟨b, off, none⟩ ∧ ∀ j, j < 10 → wr.cell? ⟨b, off + (k * 10 + j), none⟩ = (Ev.cells x)[j]? := by
        cases a with
        | none => rw [HA.out.1 rfl] at hx; simp at hx
        | some ad =>
          obtain ⟨b, off, spot⟩ := ad
          obtain rfl : spot = none := (HA.out.2 _ rfl).1
          refine ⟨b, off, rfl, fun j hj => ?_⟩
          have hf := flat_at Ev.cells 10 (fun _ => rfl) P k j x hx hj
          have hlen : j < (Ev.cells x).length := hj
          have hu : (P.flatMap Ev.cells)[k * 10 + j]? = some (Ev.cells x)[j] := by rw [hf, List.getElem?_eq_getElem hlen]
          have hc := (HA.out.2 _ rfl).2 _ _ hu
          rw [Addr.add_lit] at hc
          rw [List.getElem?_eq_getElem hlen, ← hc]
          exact HW.out.cell (by have := World.block_lt_of_cell? _ _ hc; rw [← HP.out]; exact this)
      clear hx hkP hxm hx1 hx2
      obtain ⟨ep, kd, ⟨t1, t2⟩, pl, va, vb, ⟨i1, i2⟩, cd, l1, l2⟩ := x
      have hra : wr.ownsRow 0 95 2 va l1.length (l1.flatMap Rdv.cells) := HXM.out.r
      have hrb : wr.ownsRow 0 98 3 vb l2.length (l2.flatMap Wrv.cells) := HXM.out.w
      obtain ⟨a1, n1, c1, rfl⟩ := owns_slice hra
      obtain ⟨a2, n2, c2, rfl⟩ := owns_slice hrb
      have HRA : Hid (wr.ownsRow 0 95 2 (.slice a1 n1 c1) l1.length (l1.flatMap Rdv.cells) ∧ wr.ownsRow 0 98 3 (.slice a2 n2 c2) l2.length (l2.flatMap Wrv.cells)) := ⟨hra, hrb⟩
      clear hra hrb HXM
      have d0 : wr.cell? ⟨b, off + k * 10, none⟩ = some (.int .u64 ep) := hcell 0 (by omega)
      have d1 : wr.cell? ⟨b, off + (k * 10 + 1), none⟩ = some (.int .i64 kd) := hcell 1 (by omega)
      have d2 : wr.cell? ⟨b, off + (k * 10 + 2), none⟩ = some (.int .i64 t1) := hcell 2 (by omega)
      have d3 : wr.cell? ⟨b, off + (k * 10 + 3), none⟩ = some (.int .u64 t2) := hcell 3 (by omega)
      have d4 : wr.cell? ⟨b, off + (k * 10 + 4), none⟩ = some (.bool pl) := hcell 4 (by omega)
      have d5 : wr.cell? ⟨b, off + (k * 10 + 5), none⟩ = some (.slice a1 n1 c1) := hcell 5 (by omega)
      have d6 : wr.cell? ⟨b, off + (k * 10 + 6), none⟩ = some (.slice a2 n2 c2) := hcell 6 (by omega)
      have d7 : wr.cell? ⟨b, off + (k * 10 + 7), none⟩ = some (.int .i64 i1) := hcell 7 (by omega)
      have d8 : wr.cell? ⟨b, off + (k * 10 + 8), none⟩ = some (.int .u64 i2) := hcell 8 (by omega)
      have d9 : wr.cell? ⟨b, off + (k * 10 + 9), none⟩ = some (.int .i64 cd) := hcell 9 (by omega)
      simp only [← Nat.add_assoc] at d1 d2 d3 d4 d5 d6 d7 d8 d9
      clear hcell
      have hwp : p ≤ wr.heap.size := by have := HW.out.size; have := HP.out; omega
      have ha : Below wr.heap.size wr (wr.alloc (.cells #[.int .u64 ep, .int .i64 kd, .int .i64 t1, .int .u64 t2, .bool pl, .slice a1 n1 c1, .slice a2 n2 c2, .int .i64 i1, .int .u64 i2, .int .i64 cd] 45)) := (Below.refl _ _).alloc (Nat.le_refl _) _
      have hq := plainE_any ep kd (t1, t2) pl 0 a1 n1 c1 a2 n2 c2 l1 l2 (i1, i2) cd _ (owns_later HRA.out.1 ha) (owns_later HRA.out.2 ha) HX1.out.1 HX1.out.2
      have hxn := heap_alloc_new wr (.cells #[.int .u64 ep, .int .i64 kd, .int .i64 t1, .int .u64 t2, .bool pl, .slice a1 n1 c1, .slice a2 n2 c2, .int .i64 i1, .int .u64 i2, .int .i64 cd] 45)
      have HQ1A : Hid ((wr.alloc (.cells #[.int .u64 ep, .int .i64 kd, .int .i64 t1, .int .u64 t2, .bool pl, .slice a1 n1 c1, .slice a2 n2 c2, .int .i64 i1, .int .u64 i2, .int .i64 cd] 45)).ownsRow p 54 10 (.slice xa xn xc) Q.length (Q.flatMap Ev.cells)) := owns_later HQ1.out ha
      have HQ3A : Hid (∀ e ∈ Q, e.rmem (wr.alloc (.cells #[.int .u64 ep, .int .i64 kd, .int .i64 t1, .int .u64 t2, .bool pl, .slice a1 n1 c1, .slice a2 n2 c2, .int .i64 i1, .int .u64 i2, .int .i64 cd] 45))) := fun e he => (HQ3.out e he).later ha
      have HWA : Hid (Below p w (wr.alloc (.cells #[.int .u64 ep, .int .i64 kd, .int .i64 t1, .int .u64 t2, .bool pl, .slice a1 n1 c1, .slice a2 n2 c2, .int .i64 i1, .int .u64 i2, .int .i64 cd] 45))) := HW.out.alloc hwp _
      clear ha HQ1 HQ3 HW HRA
      go_upto_region 5 with fail
      clear d0 d1 d2 d3 d4 d5 d6 d7 d8 d9
      have hwp1 : p ≤ (wr.alloc (.cells #[.int .u64 ep, .int .i64 kd, .int .i64 t1, .int .u64 t2, .bool pl, .slice a1 n1 c1, .slice a2 n2 c2, .int .i64 i1, .int .u64 i2, .int .i64 cd] 45)).heap.size := by simp; omega
      generalize hw1 : wr.alloc (.cells #[.int .u64 ep, .int .i64 kd, .int .i64 t1, .int .u64 t2, .bool pl, .slice a1 n1 c1, .slice a2 n2 c2, .int .i64 i1, .int .u64 i2, .int .i64 cd] 45) = w1 at *
      clear hw1
      obtain ⟨d0, d1, d2, d3, d4, d5, d6, d7, d8, d9⟩ := ten_cells hxn
      go_wp2_with fail
      refine hq.mono ?_
      clear hq hxn d0 d1 d2 d3 d4 d5 d6 d7 d8 d9
      rintro e w2 ⟨⟨u1, u2, rfl, hu1, hu2⟩, hb2⟩
      obtain ⟨y1, m1, z1, rfl⟩ := owns_slice hu1
      obtain ⟨y2, m2, z2, rfl⟩ := owns_slice hu2
      have HU : Hid (Ev.rmem w2 (⟨ep, kd, (t1, t2), pl, .slice y1 m1 z1, .slice y2 m2 z2, (i1, i2), cd, l1, l2⟩ : Ev)) := ⟨owns_mono hu1 (Nat.zero_le _), owns_mono hu2 (Nat.zero_le _)⟩
      have HQ12 : Hid (w2.ownsRow p 54 10 (.slice xa xn xc) Q.length (Q.flatMap Ev.cells)) := owns_later HQ1A.out hb2
      have HQ32 : Hid (∀ e ∈ Q, e.rmem w2) := fun e he => (HQ3A.out e he).later hb2
      have HW2 : Hid (Below p w w2) := HWA.out.trans (hb2.mono hwp1)
      have hwp2 : p ≤ w2.heap.size := Nat.le_trans hwp1 hb2.size
      clear hu1 hu2 hb2 HQ1A HQ3A HWA hwp hwp1
      go_wp2_with (at_builtin; refine wp_append_els Ev.cells 10 112 25 54 _ Try.underlying25 Try.info_54 rfl (by decide) (fun _ => rfl) (by decide) rfl _ _ rfl p _ Q rfl (owns_later HQ12.out ((Below.refl _ _).alloc (Nat.le_refl _) _)) _ 1 _ [(⟨ep, kd, (t1, t2), pl, .slice y1 m1 z1, .slice y2 m2 z2, (i1, i2), cd, l1, l2⟩ : Ev)] rfl rfl (news_one Ev.cells (⟨ep, kd, (t1, t2), pl, .slice y1 m1 z1, .slice y2 m2 z2, (i1, i2), cd, l1, l2⟩ : Ev) (heap_alloc_new _ _) rfl) (by intro u hu; simp only [List.flatMap_cons, List.flatMap_nil, List.append_nil] at hu; exact Ev.rone HU.out u hu) (by decide) (by omega) (by simp; omega) ?_; intro v3 w3 ho3 hg3 hv3; obtain ⟨x3, n3, k3, rfl⟩ := owns_slice ho3; have hfr : Fr p [54] w2 w3 := (Fr.of ((Below.refl _ _).alloc (Nat.le_refl _) _)).trans (Fr.grown hg3 (fun q hq => by rcases HQ12.out.2 with ⟨h0, _⟩ | ⟨gg, cap, cur, h0, h5, h6, _⟩; (· simp only [Value.slice.injEq] at h0; rw [show (Act.eval _ _) = Value.slice xa xn xc from rfl] at hq; rw [h0.1] at hq; simp [Value.ownBlock] at hq); (· rw [show (Act.eval _ _) = Value.slice xa xn xc from rfl, h0] at hq; simp [Value.ownBlock] at hq; subst hq; exact ⟨h5, 54, by simp, by rw [tagOf_same (heap_alloc_old _ _ (Array.getElem?_eq_some_iff.1 h6).1)]; exact tagOf_heap h6⟩))); have HF3 : Hid (w3.ownsRow p 54 10 (.slice x3 n3 k3) (Q ++ [(⟨ep, kd, (t1, t2), pl, .slice y1 m1 z1, .slice y2 m2 z2, (i1, i2), cd, l1, l2⟩ : Ev)]).length ((Q ++ [(⟨ep, kd, (t1, t2), pl, .slice y1 m1 z1, .slice y2 m2 z2, (i1, i2), cd, l1, l2⟩ : Ev)]).flatMap Ev.cells) ∧ (∀ e ∈ Q ++ [(⟨ep, kd, (t1, t2), pl, .slice y1 m1 z1, .slice y2 m2 z2, (i1, i2), cd, l1, l2⟩ : Ev)], e.rmem w3) ∧ Below p w w3) := ⟨ho3, (fun e he => (List.mem_append.1 he).elim (fun h => (HQ32.out e h).fr hfr (by decide) (by decide)) (fun h => by simp only [List.mem_cons, List.not_mem_nil, or_false] at h; subst h; exact HU.out.fr hfr (by decide) (by decide))), HW2.out.trans (hfr.below hwp2)⟩; clear ho3 hg3 hv3 hfr)
      go_roundw
      case rel => exact ⟨k + 1, by go_num, by omega, ⟨_, HF3.out.1, by rw [List.map_append, HQ2.out, take_core HX.out]; rfl, HF3.out.2.1⟩, HF3.out.2.2⟩
      case measure => simp [intOf]; omega
    · have hk2 : k = n := by omega
      have HE : Hid (Q.map core = P.map core) := by rw [Hid, HQ2.out, List.take_of_length_le (by rw [← HN.out]; omega)]
      clear hk2
      go_wp2
      go_ret
      exact ⟨Q, _, rfl, HQ1.out, HE.out, HQ3.out, HW.out⟩
end Go.Proofs.Ytlefaicdcomkjaa
