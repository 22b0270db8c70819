/- A disk in memory, the program's and the law's own: what it is, and how it stays. -/
import Derived.Test.YtmlpneiadkngaaaDoorBase
import Derived.BigRegion
namespace Go.Proofs.YtmlpneiadkngaaaDoor
open Go.RowKit

/-- nothing but blocks of S is written -/
structure Frm (S : Nat → Prop) (w w' : World) : Prop where
  os : w'.os = w.os
  tape : w'.tape = w.tape
  output : w'.output = w.output
  size : w.heap.size ≤ w'.heap.size
  block : ∀ k, k < w.heap.size → ¬ S k → w'.heap[k]? = w.heap[k]?
theorem Frm.refl (S : Nat → Prop) (w : World) : Frm S w w := ⟨rfl, rfl, rfl, Nat.le_refl _, fun _ _ _ => rfl⟩
theorem Frm.trans {S : Nat → Prop} {a b c : World} (h : Frm S a b) (k : Frm S b c) : Frm S a c :=
  ⟨k.os.trans h.os, k.tape.trans h.tape, k.output.trans h.output, Nat.le_trans h.size k.size, fun i hi hne => (k.block i (Nat.lt_of_lt_of_le hi h.size) hne).trans (h.block i hi hne)⟩
theorem Frm.mono {S T : Nat → Prop} {w w' : World} (h : Frm S w w') (hs : ∀ k, k < w.heap.size → S k → T k) : Frm T w w' :=
  ⟨h.os, h.tape, h.output, h.size, fun k hk hn => h.block k hk fun hS => hn (hs k hk hS)⟩
theorem Frm.below {S : Nat → Prop} {B : Nat} {w w' : World} (h : Frm S w w') (hB : B ≤ w.heap.size) (hs : ∀ k, S k → B ≤ k) : Below B w w' :=
  ⟨h.os, h.tape, h.output, h.size, fun k hk => h.block k (by omega) fun hS => by have := hs k hS; omega⟩
theorem Frm.of_below {B : Nat} {w w' : World} (h : Below B w w') (S : Nat → Prop) (hs : ∀ k, B ≤ k → k < w.heap.size → S k) : Frm S w w' :=
  ⟨h.os, h.tape, h.output, h.size, fun k hk hn => h.block k (Nat.lt_of_not_le fun h1 => hn (hs k h1 hk))⟩
theorem Frm.of_grown {w w' : World} {row : Option Nat} (h : w.grownBy w' row) (S : Nat → Prop) (hs : ∀ k, row = some k → S k) : Frm S w w' :=
  ⟨h.os, h.tape, h.output, h.size, fun k hk hn => h.block k hk fun e => hn (hs k e.symm)⟩
theorem Frm.set (g j : Nat) (w : World) (v : Value) (S : Nat → Prop) (hg : S g) : Frm S w (w.setCell ⟨g, j, none⟩ v) :=
  ⟨rfl, rfl, rfl, by simp, fun k _ hn => Below.heap_setCell w ⟨g, j, none⟩ v k (by intro h; exact hn (by rw [h]; exact hg))⟩
theorem Frm.drews (S : Nat → Prop) (w : World) (k : Nat) : Frm S w (w.drewN k) := by
  have h := below_drewN (Below.refl w.heap.size w) k
  exact Frm.of_below h S (fun i h1 h2 => by omega)
theorem Frm.cell {S : Nat → Prop} {w w' : World} (h : Frm S w w') {a : Addr} {v : Value} (hc : w.cell? a = some v) (hn : ¬ S a.block) : w'.cell? a = some v := by
  exact (World.cell?_of_block (h.block a.block (World.block_lt_of_cell? w a hc) hn)).trans hc
theorem Own.fr {S : Nat → Prop} {w w' : World} {base : Nat} {v : Value} {bs : List Nat} (h : Own w base v bs) (hf : Frm S w w') (hn : ∀ k, v.ownBlock = some k → ¬ S k) : Own w' base v bs := by
  obtain ⟨⟨hl, h⟩, hx⟩ := h
  refine ⟨⟨hl, ?_⟩, hx⟩
  rcases h with h | ⟨g, cap, cur, rfl, hg, hh, hr⟩
  · exact .inl h
  · exact .inr ⟨g, cap, cur, rfl, hg, by rw [hf.block g (Array.getElem?_eq_some_iff.1 hh).1 (hn g rfl)]; exact hh, hr⟩

theorem Row.fr {S : Nat → Prop} {w wx : World} {a : Option Addr} {n : Nat} {bs : List Nat} (hr : Row w a n bs) (hf : Frm S w wx) (hg : ∀ x, a = some x → 0 < n → ¬ S x.block) : Row wx a n bs := by
  obtain ⟨hn, hx, hm, hr⟩ := hr
  refine ⟨hn, hx, hm, ?_⟩
  rcases hr with h | ⟨b, off, h, hc⟩
  · exact .inl h
  · exact .inr ⟨b, off, h, fun i hi => hf.cell (hc i hi) (hg ⟨b, off, none⟩ h (by omega))⟩

theorem Row.sub {w : World} {a : Option Addr} {n : Nat} {bs : List Nat} (hr : Row w a n bs) : ∀ x, a = some x → 0 < n → x.block < w.heap.size := by
  intro x hx hn
  obtain ⟨h1, _, _, h⟩ := hr
  rcases h with rfl | ⟨b, off, h, hc⟩
  · simp at h1; omega
  · rw [hx] at h
    simp only [Option.some.injEq] at h
    subst h
    exact World.block_lt_of_cell? w ⟨b, off, none⟩ (by have := hc 0 (by omega); simpa using this)

/-- what a disk has: its room, both areas' bytes and how many of them are sure, whether it is lost, how many writes are left (none: it is not armed) -/
structure DS where
  room : Nat
  b0 : List Nat
  s0 : Nat
  b1 : List Nat
  s1 : Nat
  lost : Bool
  left : Option Nat

namespace DS
structure ok (d : DS) : Prop where
  room : d.room ≤ 1048576
  s0 : d.s0 ≤ d.b0.length
  s1 : d.s1 ≤ d.b1.length
  sum : d.b0.length + d.b1.length ≤ d.room
  x0 : ∀ x ∈ d.b0, x < 256
  x1 : ∀ x ∈ d.b1, x < 256
  left : d.left.getD 0 ≤ 9223372036854775807

def new (room : Nat) : DS := ⟨room, [], 0, [], 0, false, none⟩
def get (d : DS) (k : Int) : List Nat := if k = 0 then d.b0 else d.b1
def sure (d : DS) (k : Int) : Nat := if k = 0 then d.s0 else d.s1
def sets (d : DS) (k : Int) (b : List Nat) (s : Nat) : DS := if k = 0 then { d with b0 := b, s0 := s } else { d with b1 := b, s1 := s }
def free (d : DS) : Nat := d.room - d.b0.length - d.b1.length
def write (d : DS) : Nat × DS :=
  if d.lost then (12, d) else match d.left with
    | some 0 => (12, { d with lost := true })
    | some (n + 1) => (0, { d with left := some n })
    | none => (0, d)
def append (d : DS) (k : Int) (bs : List Nat) : Nat × DS :=
  if ¬ (k = 0 ∨ k = 1) then (1, d) else if d.free < bs.length then (9, d) else if d.lost then (12, d) else (d.write.1, d.write.2.sets k (d.get k ++ bs) (d.sure k))
def keep (d : DS) (k : Int) (n : Nat) : Nat × DS := if d.write.1 = 0 then (0, d.write.2.sets k ((d.get k).take n) n) else d.write
def sync (d : DS) (k : Int) : Nat × DS := if ¬ (k = 0 ∨ k = 1) then (1, d) else d.keep k (d.get k).length
def cut (d : DS) (k n : Int) : Nat × DS := if ¬ (k = 0 ∨ k = 1) ∨ n < 0 ∨ (d.get k).length < n then (1, d) else d.keep k n.toNat
def read (d : DS) (k : Int) : List Nat × Nat := if ¬ (k = 0 ∨ k = 1) then ([], 1) else if d.lost then ([], 12) else (d.get k, 0)
def sureOf (d : DS) (k : Int) : Nat := if ¬ (k = 0 ∨ k = 1) then 0 else d.sure k
def arm (d : DS) (n : Int) : DS := { d with left := some n.toNat }
def stay (b : List Nat) (s k : Nat) : Nat := s + k % (b.length - s + 1)
def crash (d : DS) (k0 k1 : Nat) : DS := { room := d.room, b0 := d.b0.take (stay d.b0 d.s0 k0), s0 := stay d.b0 d.s0 k0, b1 := d.b1.take (stay d.b1 d.s1 k1), s1 := stay d.b1 d.s1 k1, lost := false, left := none }

theorem stay_le (b : List Nat) (s k : Nat) (h : s ≤ b.length) : stay b s k ≤ b.length ∧ s ≤ stay b s k := by
  unfold stay
  have := Nat.mod_lt k (show b.length - s + 1 > 0 by omega)
  omega
theorem new_ok (room : Nat) (h : room ≤ 1048576) : (new room).ok := ⟨h, by simp [new], by simp [new], by simp [new], by simp [new], by simp [new], by simp [new]⟩
theorem write_ok {d : DS} (h : d.ok) : d.write.2.ok := by
  unfold write
  split
  · exact h
  · have hl := h.left
    split <;> rename_i e
    · exact ⟨h.room, h.s0, h.s1, h.sum, h.x0, h.x1, h.left⟩
    · rw [e] at hl
      simp only [Option.getD_some] at hl
      exact ⟨h.room, h.s0, h.s1, h.sum, h.x0, h.x1, by simp; omega⟩
    · exact h
theorem write_same (d : DS) : d.write.2.room = d.room ∧ d.write.2.b0 = d.b0 ∧ d.write.2.b1 = d.b1 ∧ d.write.2.s0 = d.s0 ∧ d.write.2.s1 = d.s1 := by
  unfold write
  split
  · simp
  · split <;> simp
theorem write_code (d : DS) : d.write.1 = 0 ∨ d.write.1 = 12 := by
  unfold write
  split
  · simp
  · split <;> simp
theorem sets_ok {d : DS} (h : d.ok) (k : Int) (b : List Nat) (s : Nat) (hs : s ≤ b.length) (hx : ∀ x ∈ b, x < 256) (hb : b.length ≤ (d.get k).length + d.free) : (d.sets k b s).ok := by
  have h1 := h.sum
  have h2 := h.s0
  have h3 := h.s1
  unfold free get at hb
  unfold sets
  split <;> rename_i e
  · rw [if_pos e] at hb
    exact ⟨h.room, hs, h.s1, by simp; omega, hx, h.x1, h.left⟩
  · rw [if_neg e] at hb
    exact ⟨h.room, h.s0, hs, by simp; omega, h.x0, hx, h.left⟩
theorem get_write (d : DS) (k : Int) : d.write.2.get k = d.get k ∧ d.write.2.sure k = d.sure k ∧ d.write.2.free = d.free := by
  obtain ⟨h0, h1, h2, h3, h4⟩ := write_same d
  unfold get sure free
  rw [h0, h1, h2, h3, h4]
  exact ⟨rfl, rfl, rfl⟩
theorem get_lt {d : DS} (h : d.ok) (k : Int) : ∀ x ∈ d.get k, x < 256 := by
  unfold get
  split
  · exact h.x0
  · exact h.x1
theorem sure_le {d : DS} (h : d.ok) (k : Int) : d.sure k ≤ (d.get k).length := by
  unfold get sure
  split
  · exact h.s0
  · exact h.s1
theorem get_le {d : DS} (h : d.ok) (k : Int) : (d.get k).length ≤ 1048576 := by
  have h1 := h.sum
  have h2 := h.room
  unfold get
  split <;> omega
theorem keep_ok {d : DS} (h : d.ok) (k : Int) (n : Nat) (hn : n ≤ (d.get k).length) : (d.keep k n).2.ok := by
  unfold keep
  split
  · refine sets_ok (write_ok h) k _ _ (by simp; omega) (fun x hx => get_lt h k x (List.mem_of_mem_take hx)) ?_
    rw [(get_write d k).1]
    simp
    omega
  · exact write_ok h
theorem append_ok {d : DS} (h : d.ok) (k : Int) (bs : List Nat) (hx : ∀ x ∈ bs, x < 256) : (d.append k bs).2.ok := by
  unfold append
  split
  · exact h
  · split
    · exact h
    · split
      · exact h
      · rename_i hf _
        refine sets_ok (write_ok h) k _ _ (by have := sure_le h k; simp; omega) ?_ ?_
        · intro x hx2
          rcases List.mem_append.1 hx2 with h3 | h3
          · exact get_lt h k x h3
          · exact hx x h3
        · rw [(get_write d k).1, (get_write d k).2.2]
          simp
          omega
theorem sync_ok {d : DS} (h : d.ok) (k : Int) : (d.sync k).2.ok := by
  unfold sync
  split
  · exact h
  · exact keep_ok h k _ (Nat.le_refl _)
theorem cut_ok {d : DS} (h : d.ok) (k n : Int) : (d.cut k n).2.ok := by
  unfold cut
  split
  · exact h
  · exact keep_ok h k _ (by omega)
theorem arm_ok {d : DS} (h : d.ok) (n : Int) (hn : n ≤ 9223372036854775807) : (d.arm n).ok :=
  ⟨h.room, h.s0, h.s1, h.sum, h.x0, h.x1, by simp [arm]; omega⟩
theorem crash_ok {d : DS} (h : d.ok) (k0 k1 : Nat) : (d.crash k0 k1).ok := by
  have a := stay_le d.b0 d.s0 k0 h.s0
  have b := stay_le d.b1 d.s1 k1 h.s1
  have c := h.sum
  refine ⟨h.room, ?_, ?_, ?_, fun x hx => h.x0 x (List.mem_of_mem_take hx), fun x hx => h.x1 x (List.mem_of_mem_take hx), by simp [crash]⟩ <;> simp [crash] <;> omega
end DS

/-- the program's disk in memory: all its blocks are of S -/
def Dk (w : World) (S : Nat → Prop) (g : Nat) (d : DS) : Prop :=
  ∃ a0 n0 c0 a1 n1 c1, w.heap[g]? = some (.cells #[.int .i64 (d.room : Nat), .slice a0 n0 c0, .int .i64 (d.s0 : Nat), .slice a1 n1 c1, .int .i64 (d.s1 : Nat), .bool d.lost, .bool d.left.isSome, .int .i64 (d.left.getD 0 : Nat)] 50 (0, 0)) ∧
    Own w 0 (.slice a0 n0 c0) d.b0 ∧ Own w 0 (.slice a1 n1 c1) d.b1 ∧ S g ∧
    (∀ k, (Value.slice a0 n0 c0).ownBlock = some k → S k ∧ k ≠ g) ∧ (∀ k, (Value.slice a1 n1 c1).ownBlock = some k → S k ∧ k ≠ g) ∧
    (∀ k, (Value.slice a0 n0 c0).ownBlock = some k → (Value.slice a1 n1 c1).ownBlock ≠ some k) ∧ d.ok

theorem Dk.good {w : World} {S : Nat → Prop} {g : Nat} {d : DS} (h : Dk w S g d) : d.ok := by
  obtain ⟨a0, n0, c0, a1, n1, c1, _, _, _, _, _, _, _, h⟩ := h
  exact h
theorem Dk.lt {w : World} {S : Nat → Prop} {g : Nat} {d : DS} (h : Dk w S g d) : g < w.heap.size := by
  obtain ⟨a0, n0, c0, a1, n1, c1, h, _⟩ := h
  exact (Array.getElem?_eq_some_iff.1 h).1
theorem Dk.fr {w w' : World} {S T : Nat → Prop} {g : Nat} {d : DS} (h : Dk w S g d) (hf : Frm T w w') (hn : ∀ k, k < w.heap.size → S k → ¬ T k) : Dk w' S g d := by
  have hlt := h.lt
  obtain ⟨a0, n0, c0, a1, n1, c1, h, h1, h2, h3, h4, h5, h6, h7⟩ := h
  exact ⟨a0, n0, c0, a1, n1, c1, by rw [hf.block g hlt (hn g hlt h3)]; exact h, h1.fr hf (fun k hk => hn k (World.ownsRow.lt h1.1 k hk).2 (h4 k hk).1), h2.fr hf (fun k hk => hn k (World.ownsRow.lt h2.1 k hk).2 (h5 k hk).1), h3, h4, h5, h6, h7⟩
theorem Dk.later {w w' : World} {S : Nat → Prop} {g : Nat} {d : DS} (h : Dk w S g d) (hb : Below w.heap.size w w') : Dk w' S g d :=
  h.fr (Frm.of_below hb (fun _ => False) (fun k h1 h2 => by omega)) (fun _ _ _ h => h)
theorem Dk.drews {w : World} {S : Nat → Prop} {g k : Nat} {d : DS} (h : Dk w S g d) : Dk (w.drewN k) S g d := h.later (below_drewN (Below.refl _ _) _)
theorem Dk.to {w : World} {S T : Nat → Prop} {g : Nat} {d : DS} (h : Dk w S g d) (hs : ∀ k, k < w.heap.size → S k → T k) : Dk w T g d := by
  have hlt := h.lt
  obtain ⟨a0, n0, c0, a1, n1, c1, h, h1, h2, h3, h4, h5, h6, h7⟩ := h
  exact ⟨a0, n0, c0, a1, n1, c1, h, h1, h2, hs g hlt h3, fun k hk => ⟨hs k (World.ownsRow.lt h1.1 k hk).2 (h4 k hk).1, (h4 k hk).2⟩, fun k hk => ⟨hs k (World.ownsRow.lt h2.1 k hk).2 (h5 k hk).1, (h5 k hk).2⟩, h6, h7⟩

end Go.Proofs.YtmlpneiadkngaaaDoor
