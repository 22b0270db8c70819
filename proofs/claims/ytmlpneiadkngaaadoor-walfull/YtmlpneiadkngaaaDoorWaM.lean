/- The chapter's example: what the law's awake does. -/
import Derived.Test.YtmlpneiadkngaaaDoorWaK
import Derived.Test.YtmlpneiadkngaaaDoorWaL
import Derived.Test.YtmlpneiadkngaaaDoorDkF
namespace Go.Proofs.YtmlpneiadkngaaaDoor
open Go.RowKit
set_option linter.unusedVariables false

/-- the disk on its way through the example -/
def Dx1 : DS := ⟨1000, [197, 0, 3, 71, 1, 0, 247, 242, 89, 184], 10, [], 0, false, none⟩
def Dx2 : DS := ⟨1000, [197, 0, 3, 71, 1, 0, 247, 242, 89, 184, 197, 0, 3, 97, 98, 99, 35, 192, 242, 30], 10, [], 0, false, none⟩
def Dx3 : DS := ⟨1000, [197, 0, 3, 71, 1, 0, 247, 242, 89, 184, 197, 0, 3, 97, 98, 99, 35, 192, 242, 30], 20, [], 0, false, none⟩
def Dx4 : DS := ⟨1000, [197, 0, 3, 71, 1, 0, 247, 242, 89, 184, 197, 0, 3, 97, 98, 99, 35, 192, 242, 30, 197, 0, 2, 100, 101, 6, 48, 137, 30], 20, [], 0, false, none⟩
theorem fx1 : (DS.new 1000).opened 0 0 false 0 0 0 false 0 = (0, Dx1) := by kernel_rfl
theorem fx2 : Dx1.append (0 : Nat) (Fr.put [97, 98, 99]) = (0, Dx2) := by kernel_rfl
theorem fx3 : Dx2.sync (0 : Nat) = (0, Dx3) := by kernel_rfl
theorem fx4 : Dx3.append (0 : Nat) (Fr.put [100, 101]) = (0, Dx4) := by kernel_rfl
theorem fx5 : Dx4.crash 0 0 = Dx3 := by kernel_rfl
theorem fx6 : Dx3.opened 20 20 true 1 0 0 false 0 = (0, Dx3) := by kernel_rfl

theorem Sees.none {w : World} {base en gn n : Nat} {wh : Bool} {a : Option Addr} (h : Sees w base [] en wh gn a n) : wh = false ∧ gn = 0 ∧ en = 0 ∧ a = .none ∧ n = 0 := by
  obtain ⟨k, hk, hm⟩ := h
  have h0 : Fr.Stop [] 0 := ⟨fun j hj => by omega, by decide⟩
  obtain rfl := hk.same h0
  exact hm
theorem Sees.one {w : World} {base en gn n : Nat} {wh : Bool} {a : Option Addr} (h : Sees w base Dx3.b0 en wh gn a n) : wh = true ∧ gn = 1 ∧ en = 20 ∧ n = 1 ∧ Recb w base a n [[97, 98, 99]] := by
  obtain ⟨k, hk, hm⟩ := h
  have h0 : Fr.Stop Dx3.b0 2 := by
    refine ⟨fun j hj => ?_, by decide +kernel⟩
    have : j = 0 ∨ j = 1 := by omega
    rcases this with rfl | rfl <;> decide +kernel
  obtain rfl := hk.same h0
  have hw : Wa.whole Dx3.b0 2 = some (1, [[97, 98, 99]], 20) := by decide +kernel
  rw [hw] at hm
  exact hm
theorem str_abc : str [97, 98, 99] = ⟨#[97, 98, 99]⟩ := rfl

set_option maxHeartbeats 4000000 in
set_option maxRecDepth 100000 in
theorem awake6_any (w : World) (hg : G w) :
    Calls Tryd.prog 13 #[] w fun e w' => e = .returned (.bool true) ∧ Below w.heap.size w w' := by
  have hpos := hg.pos
  obtain ⟨S, hSe⟩ : ∃ S : Nat → Prop, S = fun k => w.heap.size ≤ k := ⟨_, rfl⟩
  have HSE : Hid (∀ k, S k ↔ w.heap.size ≤ k) := fun k => by rw [hSe]
  have hn0 : ¬ S 0 := fun h => by have := (HSE.out 0).1 h; omega
  clear hSe
  have HG : Hid (G w) := hg
  clear hg
  go_enter Tryd.func13, Tryd.ntmps13
  go_wp2_with fail
  refine (dnew_any 1000 w S (fun k hk => (HSE.out k).2 hk)).mono ?_
  rintro e w1 ⟨rfl, hD1, hb1⟩
  rw [show min (1000 : Int).toNat 1048576 = 1000 from rfl] at hD1
  have HB1 : Hid (Below w.heap.size w w1) := hb1
  have hop := Open_ok w.heap.size S (DS.new 1000) w1 (HG.out.later hb1) hD1 (fun k hk => (HSE.out k).2 (Nat.le_trans hb1.size hk)) hn0 rfl (by decide) (by decide)
  have hgl0 := hD1.lt
  clear hD1 hb1
  generalize hge : w.heap.size = g at *
  have HGE : Hid (w.heap.size = g) := hge
  clear hge
  have HZ : Hid (∀ x : World, Below g w x → g ≤ x.heap.size) := fun x h => by have := h.size; rw [HGE.out] at this; exact this
  have kc := fun (w : World) (C : Array Value) (n c : Nat) => Lib.run_convert_bytes_const (P := Tryd.prog) w 22 5 C n c Tryd.underlying22 Tryd.underlying5
  go_wp2_with fail
  refine hop.mono ?_
  clear hop
  rintro e w2 ⟨en0, wh0, gn0, a0, n0, cap0, en1, wh1, gn1, a1, n1, cap1, hs0, hs1, hf2, hif⟩
  obtain ⟨rfl, rfl, rfl, rfl, rfl⟩ := hs0.none
  obtain ⟨rfl, rfl, rfl, rfl, rfl⟩ := hs1.none
  rw [show (DS.new 1000).b0.length = 0 from rfl, show (DS.new 1000).b1.length = 0 from rfl, fx1, if_pos rfl] at hif
  rw [show Wa.newest false false 0 0 = 0 from rfl, show Wa.genOf false 0 false 0 = 1 from rfl, if_pos rfl] at hif
  obtain ⟨gl, rfl, hL2, hgl, hD2⟩ := hif
  dsimp only at hD2
  obtain ⟨T, hTe⟩ : ∃ T : Nat → Prop, T = fun k => S k ∧ k ≠ gl := ⟨_, rfl⟩
  rw [← hTe] at hD2
  have HT : Hid (∀ k, T k ↔ (g ≤ k ∧ k ≠ gl)) := fun k => by rw [hTe]; dsimp only; rw [HSE.out k]
  clear hTe hs0 hs1
  have hT0 : ¬ T 0 := fun h => by have := ((HT.out 0).1 h).1; omega
  have hTl : ¬ T gl := fun h => ((HT.out gl).1 h).2 rfl
  have hgl1 : gl < w2.heap.size := heap_lt hL2
  have hggl : g ≤ gl := by omega
  have HB2 : Hid (Below g w w2) := by
    have h1 := HB1.out
    exact h1.trans (hf2.below (HZ.out _ h1) (fun k hk => (HSE.out k).1 hk))
  have HG2 : Hid (G w2) := (HG.out.later (by rw [HGE.out]; exact HB1.out)).frm hf2 hn0
  clear hf2 HB1 hgl0
  have hba : Below w2.heap.size w2 (w2.alloc (.cells #[.int .u8 97, .int .u8 98, .int .u8 99] 5 (3, 4))) := below_new _ _
  have hra := Row.new w2 #[.int .u8 97, .int .u8 98, .int .u8 99] 5 (3, 4) [97, 98, 99] rfl (by decide) (by decide)
  have had := add_any gl g 0 1 T Dx1 (some ⟨w2.heap.size, 0, none⟩) 3 3 [97, 98, 99] _ (HG2.out.later hba) (hL2.later hba) (hD2.later hba) (fun k hk => (HT.out k).2 ⟨by have := hba.size; omega, by have := hba.size; omega⟩) hTl hT0 hra (by simp) (by omega) (by omega)
  rw [fx2] at had
  dsimp only at had
  rw [show Wa.died 0 = false from rfl] at had
  have HBA : Hid (Below w2.heap.size w2 (w2.alloc (.cells #[.int .u8 97, .int .u8 98, .int .u8 99] 5 (3, 4)))) := hba
  clear hba hra hL2 hD2
  go_wp2_with fail
  refine had.mono ?_
  clear had
  rintro e w3 ⟨rfl, hL3, hD3, hf3⟩
  have HB3 : Hid (Below g w w3) := by
    have h1 := HB2.out.trans (HBA.out.mono (HZ.out _ HB2.out))
    exact h1.trans (hf3.below (HZ.out _ h1) (fun k hk => by rcases hk with hk | hk; (exact ((HT.out k).1 hk).1); omega))
  have HG3 : Hid (G w3) := (HG2.out.later HBA.out).frm hf3 (fun h => by rcases h with h | h; (exact hT0 h); omega)
  have hsy := sync_any gl g 0 1 T Dx2 w3 HG3.out hL3 hD3 hTl hT0
  rw [fx3] at hsy
  dsimp only at hsy
  rw [show Wa.died 0 = false from rfl] at hsy
  clear hL3 hD3 hf3 HBA HG2 HB2
  go_wp2_with fail
  refine hsy.mono ?_
  clear hsy
  rintro e w4 ⟨rfl, hL4, hD4, hf4⟩
  have HB4 : Hid (Below g w w4) := HB3.out.trans (hf4.below (HZ.out _ HB3.out) (fun k hk => by rcases hk with hk | hk; (exact ((HT.out k).1 hk).1); omega))
  have HG4 : Hid (G w4) := HG3.out.frm hf4 (fun h => by rcases h with h | h; (exact hT0 h); omega)
  have hgl4 : gl < w4.heap.size := heap_lt hL4
  clear hf4 HB3 HG3 hgl1
  have hbb : Below w4.heap.size w4 (w4.alloc (.cells #[.int .u8 100, .int .u8 101] 5 (2, 3))) := below_new _ _
  have hrb := Row.new w4 #[.int .u8 100, .int .u8 101] 5 (2, 3) [100, 101] rfl (by decide) (by decide)
  have had := add_any gl g 0 1 T Dx3 (some ⟨w4.heap.size, 0, none⟩) 2 2 [100, 101] _ (HG4.out.later hbb) (hL4.later hbb) (hD4.later hbb) (fun k hk => (HT.out k).2 ⟨by have := hbb.size; omega, by have := hbb.size; omega⟩) hTl hT0 hrb (by simp) (by omega) (by omega)
  rw [fx4] at had
  dsimp only at had
  have HBB : Hid (Below w4.heap.size w4 (w4.alloc (.cells #[.int .u8 100, .int .u8 101] 5 (2, 3)))) := hbb
  clear hbb hrb hL4 hD4
  go_wp2_with fail
  refine had.mono ?_
  clear had
  rintro e w5 ⟨rfl, -, hD5, hf5⟩
  have HB5 : Hid (Below g w w5) := by
    have h1 := HB4.out.trans (HBB.out.mono (HZ.out _ HB4.out))
    exact h1.trans (hf5.below (HZ.out _ h1) (fun k hk => by rcases hk with hk | hk; (exact ((HT.out k).1 hk).1); omega))
  have HG5 : Hid (G w5) := (HG4.out.later HBB.out).frm hf5 (fun h => by rcases h with h | h; (exact hT0 h); omega)
  have hgl5 : gl < w5.heap.size := by have := HBB.out.size; have := hf5.size; omega
  have hcr := dcrash_any g T Dx4 0 0 w5 hD5 (by omega) (by omega)
  rw [fx5] at hcr
  clear hf5 HB4 HG4 HBB hD5 hgl4
  go_wp2_with fail
  refine hcr.mono ?_
  clear hcr
  rintro e w6 ⟨rfl, hD6, hf6⟩
  have HB6 : Hid (Below g w w6) := HB5.out.trans (hf6.below (HZ.out _ HB5.out) (fun k hk => by omega))
  have HG6 : Hid (G w6) := HG5.out.frm hf6 (fun h => by omega)
  have hgl6 : gl < w6.heap.size := by have := hf6.size; omega
  have hg6 : g ≤ w6.heap.size := HZ.out _ HB6.out
  have hop := Open_ok g T Dx3 w6 HG6.out hD6 (fun k hk => (HT.out k).2 ⟨by omega, by omega⟩) hT0 rfl (by decide) (by decide)
  clear hf6 HB5 HG5 hD6 hgl5
  go_wp2_with fail
  refine hop.mono ?_
  clear hop
  rintro e w7 ⟨en0, wh0, gn0, a0, n0, cap0, en1, wh1, gn1, a1, n1, cap1, hs0, hs1, hf7, hif⟩
  obtain ⟨rfl, rfl, rfl, rfl, hrc⟩ := hs0.one
  obtain ⟨rfl, rfl, rfl, rfl, rfl⟩ := hs1.none
  rw [show Dx3.b0.length = 20 from rfl, show Dx3.b1.length = 0 from rfl, fx6, if_pos rfl] at hif
  rw [show Wa.newest true false 1 0 = 0 from rfl, show Wa.genOf true 1 false 0 = 1 from rfl, if_pos rfl] at hif
  obtain ⟨gl2, rfl, hL7, -, -⟩ := hif
  have HB7 : Hid (Below g w w7) := HB6.out.trans (hf7.below (HZ.out _ HB6.out) (fun k hk => ((HT.out k).1 hk).1))
  obtain ⟨-, hrc2⟩ := hrc
  rcases hrc2 with h | ⟨gr, off, rfl, -, hcc⟩
  · omega
  obtain ⟨aa, nn, cc, hx, hrow, -⟩ := hcc 0 [97, 98, 99] rfl
  simp only [Nat.add_zero] at hx
  have hcv : ∀ c, (convert 22 9 (.slice aa nn c)).run Tryd.prog w7 = .ok (.string (str [97, 98, 99])) w7 := fun c => conv_row hrow c
  rw [str_abc] at hcv
  have hgn := gen_any gl2 g 0 1 w7 hL7
  clear hcc hrow hs0 hs1 hf7 hL7 HB6 HG6
  go_wp2_with fail
  refine hgn.mono ?_
  clear hgn
  rintro e w8 ⟨rfl, hw⟩
  subst w8
  go_wp2
  go_ret
  exact ⟨rfl, by rw [HGE.out]; exact HB7.out⟩
end Go.Proofs.YtmlpneiadkngaaaDoor
