/- A transaction's, an entry's bytes: plain mathematics. -/
import Derived.Test.YteokhedljfakkaaDoorOctE
import Derived.Test.YteokhedljfakkaaDoorEnK
namespace Go.Proofs.YteokhedljfakkaaDoor
open Go Go.RowKit
set_option linter.unusedVariables false
set_option linter.unusedSimpArgs false

/-- a text's bytes, as numbers -/
def bys (s : ByteArray) : List Nat := s.data.toList.map UInt8.toNat
theorem str_bys (s : ByteArray) : str (bys s) = s := by
  unfold str bys
  have : (s.data.toList.map UInt8.toNat).map UInt8.ofNat = s.data.toList := by
    rw [List.map_map]
    conv => rhs; rw [← List.map_id s.data.toList]
    apply List.map_congr_left
    intro x _
    simp
  rw [this]
theorem bys_lt (s : ByteArray) : ∀ x ∈ bys s, x < 256 := by
  intro x hx
  simp only [bys, List.mem_map] at hx
  obtain ⟨y, _, rfl⟩ := hx
  have := y.toNat_lt
  omega
theorem bys_length (s : ByteArray) : (bys s).length = s.size := by
  unfold bys
  rw [List.length_map, Array.length_toList]; rfl
theorem bys_str (ts : List Nat) (h : ∀ x ∈ ts, x < 256) : bys (str ts) = ts := by
  unfold bys str
  simp only [List.map_map]
  conv => rhs; rw [← List.map_id ts]
  apply List.map_congr_left
  intro x hx
  have := h x hx
  simp [UInt8.toNat_ofNat']
  omega
def bitN (f : Bool) : Nat := if f then 1 else 0
def textB (s : ByteArray) : List Nat := Oct.put s.size ++ bys s
def rdB (r : Rdv) : List Nat := textB r.key ++ Oct.put r.num.toNat
def wrB (r : Wrv) : List Nat := textB r.key ++ textB r.val ++ Oct.put (bitN r.gone)
def idB (x : Id) : List Nat := Oct.put x.1.toNat ++ Oct.put x.2.toNat
def rdsB (l : List Rdv) : List Nat := l.flatMap rdB
def wrsB (l : List Wrv) : List Nat := l.flatMap wrB
/-- a transaction's bytes -/
def txnB (id : Id) (plain : Bool) (l1 : List Rdv) (l2 : List Wrv) : List Nat :=
  idB id ++ Oct.put (bitN plain) ++ Oct.put l1.length ++ rdsB l1 ++ Oct.put l2.length ++ wrsB l2
theorem rdsB_snoc (l : List Rdv) (x : Rdv) : rdsB (l ++ [x]) = rdsB l ++ rdB x := by simp [rdsB, List.flatMap_append]
theorem wrsB_snoc (l : List Wrv) (x : Wrv) : wrsB (l ++ [x]) = wrsB l ++ wrB x := by simp [wrsB, List.flatMap_append]

/-! Reading: from a reader's state to a thing and the next state. -/
abbrev St := Option (List Nat)
def rdId (st : St) : Id × St :=
  (((Oct.atMostI 5 st).1, (Oct.atMost 18446744073709551615 (Oct.atMostI 5 st).2).1), (Oct.atMost 18446744073709551615 (Oct.atMostI 5 st).2).2)
def rdR (st : St) : Rdv × St :=
  (⟨str (Oct.textS 32 st).1, (Oct.atMost 18446744073709551615 (Oct.textS 32 st).2).1⟩, (Oct.atMost 18446744073709551615 (Oct.textS 32 st).2).2)
def rdW (st : St) : Wrv × St :=
  (⟨str (Oct.textS 32 st).1, str (Oct.textS 64 (Oct.textS 32 st).2).1, ((Oct.atMost 1 (Oct.textS 64 (Oct.textS 32 st).2).2).1 : Int) == 1⟩, (Oct.atMost 1 (Oct.textS 64 (Oct.textS 32 st).2).2).2)
def rdRs : Nat → St → List Rdv × St
  | 0, st => ([], st)
  | k + 1, st => ((rdRs k st).1 ++ [(rdR (rdRs k st).2).1], (rdR (rdRs k st).2).2)
def rdWs : Nat → St → List Wrv × St
  | 0, st => ([], st)
  | k + 1, st => ((rdWs k st).1 ++ [(rdW (rdWs k st).2).1], (rdW (rdWs k st).2).2)
theorem rdRs_length (k : Nat) (st : St) : (rdRs k st).1.length = k := by
  induction k with
  | zero => rfl
  | succ k ih => simp [rdRs, ih]
theorem rdWs_length (k : Nat) (st : St) : (rdWs k st).1.length = k := by
  induction k with
  | zero => rfl
  | succ k ih => simp [rdWs, ih]

/-! What was put is read back. -/
theorem atMostI_put (most n : Nat) (l : List Nat) (h : n ≤ most) (hm : most < 100) : Oct.atMostI (most : Nat) (some (Oct.put n ++ l)) = (n, some l) := by
  have e : ¬ ((most : Int) < 0) := by omega
  unfold Oct.atMostI
  rw [if_neg e, Int.toNat_natCast]
  exact Oct.atMost_put most n l (by omega) h
theorem text_put (s : ByteArray) (l : List Nat) (most : Nat) (h : s.size ≤ most) (hm : most ≤ 100000) : Oct.textS (most : Nat) (some (textB s ++ l)) = (bys s, some l) := by
  have h1 := Oct.textS_put (bys s) l (most : Nat) (by rw [bys_length]; omega) (by rw [bys_length]; omega)
  unfold textB
  rw [List.append_assoc, ← bys_length s]
  exact h1
theorem rdR_put (r : Rdv) (l : List Nat) (hk : r.key.size ≤ 32) (h0 : 0 ≤ r.num) (hn : r.num < 18446744073709551616) : rdR (some (rdB r ++ l)) = (r, some l) := by
  have h1 : Oct.textS 32 (some (textB r.key ++ (Oct.put r.num.toNat ++ l))) = _ := text_put r.key (Oct.put r.num.toNat ++ l) 32 hk (by omega)
  have e1 : rdB r ++ l = textB r.key ++ (Oct.put r.num.toNat ++ l) := by simp [rdB]
  have h2 := Oct.atMost_put 18446744073709551615 r.num.toNat l (by omega) (by omega)
  unfold rdR
  rw [e1]
  rw [h1]
  simp only [h2, str_bys, Int.toNat_of_nonneg h0]
theorem rdW_put (r : Wrv) (l : List Nat) (hk : r.key.size ≤ 32) (hv : r.val.size ≤ 64) : rdW (some (wrB r ++ l)) = (r, some l) := by
  have h1 : Oct.textS 32 (some (textB r.key ++ (textB r.val ++ (Oct.put (bitN r.gone) ++ l)))) = _ := text_put r.key (textB r.val ++ (Oct.put (bitN r.gone) ++ l)) 32 hk (by omega)
  have h2 : Oct.textS 64 (some (textB r.val ++ (Oct.put (bitN r.gone) ++ l))) = _ := text_put r.val (Oct.put (bitN r.gone) ++ l) 64 hv (by omega)
  have e1 : wrB r ++ l = textB r.key ++ (textB r.val ++ (Oct.put (bitN r.gone) ++ l)) := by simp [wrB]
  have h3 := Oct.atMost_put 1 (bitN r.gone) l (by unfold bitN; split <;> omega) (by unfold bitN; split <;> omega)
  unfold rdW
  rw [e1]
  rw [h1]
  simp only [h2, h3, str_bys]
  obtain ⟨k, v, g⟩ := r
  cases g <;> rfl
theorem rdRs_put (l : List Rdv) (h : ∀ r ∈ l, r.key.size ≤ 32 ∧ 0 ≤ r.num ∧ r.num < 18446744073709551616) (t : List Nat) : ∀ k, k ≤ l.length → rdRs k (some (rdsB l ++ t)) = (l.take k, some (rdsB (l.drop k) ++ t)) := by
  intro k
  induction k with
  | zero => intro _; simp [rdRs]
  | succ k ih =>
    intro hk
    have hkl : k < l.length := by omega
    have h1 : l.drop k = l[k] :: l.drop (k + 1) := List.drop_eq_getElem_cons hkl
    have h2 : l.take (k + 1) = l.take k ++ [l[k]] := List.take_succ_eq_append_getElem hkl
    have h3 := h l[k] (List.getElem_mem hkl)
    have h4 : rdsB (l.drop k) ++ t = rdB l[k] ++ (rdsB (l.drop (k + 1)) ++ t) := by rw [h1, rdsB, List.flatMap_cons, List.append_assoc]; rfl
    rw [rdRs, ih (by omega)]
    simp only
    rw [h4, rdR_put _ _ h3.1 h3.2.1 h3.2.2, h2]
theorem rdWs_put (l : List Wrv) (h : ∀ r ∈ l, r.key.size ≤ 32 ∧ r.val.size ≤ 64) (t : List Nat) : ∀ k, k ≤ l.length → rdWs k (some (wrsB l ++ t)) = (l.take k, some (wrsB (l.drop k) ++ t)) := by
  intro k
  induction k with
  | zero => intro _; simp [rdWs]
  | succ k ih =>
    intro hk
    have hkl : k < l.length := by omega
    have h1 : l.drop k = l[k] :: l.drop (k + 1) := List.drop_eq_getElem_cons hkl
    have h2 : l.take (k + 1) = l.take k ++ [l[k]] := List.take_succ_eq_append_getElem hkl
    have h3 := h l[k] (List.getElem_mem hkl)
    have h4 : wrsB (l.drop k) ++ t = wrB l[k] ++ (wrsB (l.drop (k + 1)) ++ t) := by rw [h1, wrsB, List.flatMap_cons, List.append_assoc]; rfl
    rw [rdWs, ih (by omega)]
    simp only
    rw [h4, rdW_put _ _ h3.1 h3.2, h2]

/-- a transaction, read -/
structure Tv where
  id : Id
  plain : Bool
  l1 : List Rdv
  l2 : List Wrv
def sA (st : St) := rdId st
def sB (st : St) := Oct.atMost 1 (sA st).2
def sC (st : St) := Oct.atMostI 8 (sB st).2
def sD (st : St) := rdRs (sC st).1 (sC st).2
def sE (st : St) := Oct.atMostI 8 (sD st).2
def sF (st : St) := rdWs (sE st).1 (sE st).2
def readTv (st : St) : Tv := ⟨(sA st).1, ((sB st).1 : Int) == 1, (sD st).1, (sF st).1⟩
def endTv (st : St) : St := (sF st).2
theorem rdId_put (x : Id) (l : List Nat) (h0 : 0 ≤ x.1) (h5 : x.1 ≤ 5) (h1 : 0 ≤ x.2) (h2 : x.2 < 18446744073709551616) : rdId (some (idB x ++ l)) = (x, some l) := by
  have e1 : idB x ++ l = Oct.put x.1.toNat ++ (Oct.put x.2.toNat ++ l) := by simp [idB]
  have q1 : Oct.atMostI 5 (some (Oct.put x.1.toNat ++ (Oct.put x.2.toNat ++ l))) = _ := atMostI_put 5 x.1.toNat (Oct.put x.2.toNat ++ l) (by omega) (by omega)
  have q2 := Oct.atMost_put 18446744073709551615 x.2.toNat l (by omega) (by omega)
  unfold rdId
  rw [e1]
  rw [q1]
  simp only [q2, Int.toNat_of_nonneg h0, Int.toNat_of_nonneg h1]
theorem readTv_put (id : Id) (plain : Bool) (l1 : List Rdv) (l2 : List Wrv) (t : List Nat) (h0 : 0 ≤ id.1) (h5 : id.1 ≤ 5) (h1 : 0 ≤ id.2) (h2 : id.2 < 18446744073709551616)
    (hr : ∀ r ∈ l1, r.key.size ≤ 32 ∧ 0 ≤ r.num ∧ r.num < 18446744073709551616) (hw : ∀ r ∈ l2, r.key.size ≤ 32 ∧ r.val.size ≤ 64) (n1 : l1.length ≤ 8) (n2 : l2.length ≤ 8) :
    readTv (some (txnB id plain l1 l2 ++ t)) = ⟨id, plain, l1, l2⟩ ∧ endTv (some (txnB id plain l1 l2 ++ t)) = some t := by
  have e0 : txnB id plain l1 l2 ++ t = idB id ++ (Oct.put (bitN plain) ++ (Oct.put l1.length ++ (rdsB l1 ++ (Oct.put l2.length ++ (wrsB l2 ++ t))))) := by simp [txnB]
  have a1 : sA (some (txnB id plain l1 l2 ++ t)) = (id, some (Oct.put (bitN plain) ++ (Oct.put l1.length ++ (rdsB l1 ++ (Oct.put l2.length ++ (wrsB l2 ++ t)))))) := by
    unfold sA; rw [e0, rdId_put _ _ h0 h5 h1 h2]
  have a2 : sB (some (txnB id plain l1 l2 ++ t)) = (bitN plain, some (Oct.put l1.length ++ (rdsB l1 ++ (Oct.put l2.length ++ (wrsB l2 ++ t))))) := by
    unfold sB; rw [a1]; exact Oct.atMost_put 1 _ _ (by unfold bitN; split <;> omega) (by unfold bitN; split <;> omega)
  have a3 : sC (some (txnB id plain l1 l2 ++ t)) = (l1.length, some (rdsB l1 ++ (Oct.put l2.length ++ (wrsB l2 ++ t)))) := by
    unfold sC; rw [a2]; exact atMostI_put 8 _ _ n1 (by omega)
  have a4 : sD (some (txnB id plain l1 l2 ++ t)) = (l1, some (Oct.put l2.length ++ (wrsB l2 ++ t))) := by
    unfold sD; rw [a3, rdRs_put l1 hr _ _ (Nat.le_refl _)]; simp [rdsB]
  have a5 : sE (some (txnB id plain l1 l2 ++ t)) = (l2.length, some (wrsB l2 ++ t)) := by
    unfold sE; rw [a4]; exact atMostI_put 8 _ _ n2 (by omega)
  have a6 : sF (some (txnB id plain l1 l2 ++ t)) = (l2, some t) := by
    unfold sF; rw [a5, rdWs_put l2 hw _ _ (Nat.le_refl _)]; simp [wrsB]
  refine ⟨?_, by unfold endTv; rw [a6]⟩
  unfold readTv
  rw [a1, a2, a4, a6]
  cases plain <;> rfl
end Go.Proofs.YteokhedljfakkaaDoor
