/- The space and the law's own space, side by side: what each call does to both. -/
import Derived.Test.YtmahigfamgbhfaaSpP
namespace Go.Proofs.Ytmahigfamgbhfaa
open Go.RowKit Go.Maps
set_option linter.unusedVariables false

theorem bytes_same (a b : ByteArray) : a.toList = b.toList ↔ a.data.toList = b.data.toList := by
  rw [ByteArray.toList_eq, ByteArray.toList_eq]
/-- may a version be put behind these? -/
def okP (l : List Ver) (key : ByteArray) (p : Int) (val : ByteArray) (gn : Bool) : Bool := right key && decide (1 ≤ p) && decide ((lastL l).pos < p) && may val gn
def newV (l : List Ver) (p : Int) (val : ByteArray) (gn : Bool) : Ver := ⟨p, (lastL l).num + 1, val, gn⟩
def putF (F : ByteArray → List Ver) (key : ByteArray) (p : Int) (val : ByteArray) (gn : Bool) : ByteArray → List Ver := if okP (F key) key p val gn = true then upd F key (F key ++ [newV (F key) p val gn]) else F
def putR (L : List LRow) (key : ByteArray) (p : Int) (val : ByteArray) (gn : Bool) : List LRow := if okP (ofL L key) key p val gn = true then setL L key (ofL L key ++ [newV (ofL L key) p val gn]) else L
def code (b : Bool) : Value := .int .i64 (if b = true then 0 else 1)
theorem okP_iff {l : List Ver} {key : ByteArray} {p : Int} {val : ByteArray} {gn : Bool} : okP l key p val gn = true ↔ right key = true ∧ 1 ≤ p ∧ (lastL l).pos < p ∧ may val gn = true := by
  simp [okP, and_assoc]
theorem okP_not {l : List Ver} {key : ByteArray} {p : Int} {val : ByteArray} {gn : Bool} (h : okP l key p val gn = false) : right key = false ∨ p < 1 ∨ p ≤ (lastL l).pos ∨ may val gn = false := by
  simp [okP] at h
  cases h1 : right key
  · exact .inl rfl
  · by_cases h2 : 1 ≤ p
    · by_cases h3 : (lastL l).pos < p
      · exact .inr (.inr (.inr (h h1 h2 h3)))
      · exact .inr (.inr (.inl (by omega)))
    · exact .inr (.inl (by omega))
theorem sput_all (c g bm gr : Nat) (F : ByteArray → List Ver) (L : List LRow) (key : ByteArray) (p : Int) (val : ByteArray) (gn : Bool) (w : World) (h : St c w g bm gr F L) (hc : c < 1000) (hs : key.size ≤ maxLen) (hpw : (Lit.int .i64 p).wf = true) (hv : val.size ≤ maxLen) :
    Calls Try.prog 38 #[.pointer (some ⟨g, 0, none⟩), .string key, .int .i64 p, .string val, .bool gn] w fun e w' => e = .returned (code (okP (F key) key p val gn)) ∧ (∃ n D, Sp w' g bm n D (putF F key p val gn) ∧ n ≤ c + 1) ∧ Rs w' gr L ∧ Two bm gr w w' := by
  obtain ⟨n, D, hsp, hn⟩ := h.sp
  have hb := h.bound key
  cases hok : okP (F key) key p val gn with
  | true =>
    obtain ⟨h1, h2, h3, h4⟩ := okP_iff.1 hok
    refine (sput_ok g bm n D F key p val gn w hsp (by unfold maxLen; omega) hs hpw hv h1 h3 h4 (by have := last_num_le hb.2; omega) (by omega) h2).mono ?_
    rintro e w' ⟨rfl, ⟨D', h5⟩, h6, h7⟩
    have hz := h7 0 (by omega) (by omega)
    exact ⟨rfl, ⟨n + 1, D', by rw [putF, if_pos hok]; exact h5, by omega⟩, h.rs.turned hsp.map h6, hz.os, hz.tape, hz.output, hz.size, fun k hk h1 _ => h6 k hk h1⟩
  | false =>
    have hF : putF F key p val gn = F := by rw [putF, if_neg (by rw [hok]; simp)]
    rw [hF]
    cases hk : right key with
    | false =>
      refine (sput_key g bm n D F key p val gn w hsp hs hk).mono ?_
      rintro e w' ⟨rfl, rfl⟩
      exact ⟨rfl, ⟨n, D, hsp, by omega⟩, h.rs, Two.refl _ _ _⟩
    | true =>
      refine (sput_arg g bm n D F key p val gn w hsp hs hv hk ?_).mono ?_
      · rcases okP_not hok with h1 | h1 | h1 | h1
        · rw [hk] at h1; cases h1
        · have := last_pos_le (hsp.right key)
          exact .inl (by omega)
        · exact .inl h1
        · exact .inr h1
      · rintro e w' ⟨rfl, hb'⟩
        exact ⟨rfl, ⟨n, D, hsp.later hb', by omega⟩, h.rs.later hb', Two.of_below hb'⟩
theorem rput_all (c gr : Nat) (L : List LRow) (key : ByteArray) (p : Int) (val : ByteArray) (gn : Bool) (w : World) (h : Rs w gr L) (hL : L.length ≤ c) (hb : (ofL L key).length ≤ c ∧ ∀ v ∈ ofL L key, v.num ≤ c) (hc : c < 1000) (hs : key.size ≤ maxLen) (hpw : (Lit.int .i64 p).wf = true) (hv : val.size ≤ maxLen) :
    Calls Try.prog 48 #[.pointer (some ⟨gr, 0, none⟩), .string key, .int .i64 p, .string val, .bool gn] w fun e w' => e = .returned (code (okP (ofL L key) key p val gn)) ∧ Rs w' gr (putR L key p val gn) ∧ w.grownBy w' (some gr) := by
  cases hok : okP (ofL L key) key p val gn with
  | true =>
    obtain ⟨h1, h2, h3, h4⟩ := okP_iff.1 hok
    rw [putR, if_pos hok]
    refine (rput_ok gr L key p val gn w h hs hv hpw h1 h2 h3 h4 (by have := last_num_le hb.2; omega) (by omega) (by omega)).mono ?_
    rintro e w' ⟨rfl, h5, h6⟩
    exact ⟨rfl, h5, h6⟩
  | false =>
    rw [putR, if_neg (by rw [hok]; simp)]
    refine (rput_no gr L key p val gn w h hs hv (okP_not hok)).mono ?_
    rintro e w' ⟨rfl, h5⟩
    exact ⟨rfl, h.later h5, (grown_of_below h5).but _⟩
/-- behind Put of both -/
theorem St.put {c : Nat} {w w' : World} {g bm gr : Nat} {F : ByteArray → List Ver} {L : List LRow} (h : St c w g bm gr F L) (key : ByteArray) (p : Int) (val : ByteArray) (gn : Bool)
    (hsp : ∃ n D, Sp w' g bm n D (putF F key p val gn) ∧ n ≤ c + 1) (hrs : Rs w' gr (putR L key p val gn)) : St (c + 1) w' g bm gr (putF F key p val gn) (putR L key p val gn) := by
  have hb := h.bound key
  refine ⟨hsp, hrs, ?_, ?_, fun s => ?_, fun s => ?_, ?_⟩
  · unfold putR
    split
    · exact Nat.le_trans (setL_length _ _ _) (by have := h.many; omega)
    · have := h.many; omega
  · unfold putR
    split
    · exact setL_sorted h.sorted _ _
    · exact h.sorted
  · unfold putR putF
    rw [h.agree key]
    split
    · rw [ofL_setL h.sorted, upd, h.agree s]
      by_cases e : s.toList = key.toList
      · rw [if_pos e, if_pos ((bytes_same s key).1 e)]
      · rw [if_neg e, if_neg (fun e2 => e ((bytes_same s key).2 e2))]
    · exact h.agree s
  · unfold putF
    have hs := h.bound s
    split
    · unfold upd
      split
      · refine ⟨by simp; omega, fun v hv => ?_⟩
        rcases List.mem_append.1 hv with hv | hv
        · have := hb.2 v hv; omega
        · rw [List.mem_singleton.1 hv]
          have := last_num_le hb.2
          show (lastL (F key)).num + 1 ≤ c + 1
          omega
      · exact ⟨by omega, fun v hv => by have := hs.2 v hv; omega⟩
    · exact ⟨by omega, fun v hv => by have := hs.2 v hv; omega⟩
  · unfold putR
    split
    · exact setL_full h.sorted h.full _ _
    · exact h.full
/-- behind Undo, Clean of both -/
theorem St.map {c : Nat} {w w' : World} {g bm gr : Nat} {F : ByteArray → List Ver} {L : List LRow} (h : St c w g bm gr F L) (f : List Ver → List Ver) (h0 : f [] = []) (hf : ∀ l, (f l).length ≤ l.length ∧ ∀ v ∈ f l, v ∈ l)
    (hsp : ∃ n D, Sp w' g bm n D (fun s => f (F s)) ∧ n ≤ c) (hrs : Rs w' gr (mapR f L)) : St c w' g bm gr (fun s => f (F s)) (mapR f L) := by
  refine ⟨hsp, hrs, Nat.le_trans (mapR_length _ _) h.many, mapR_sorted h.sorted, fun s => ?_, fun s => ?_, mapR_full _ _⟩
  · rw [ofL_mapR h0 h.sorted, h.agree]
  · have := h.bound s
    have k := hf (F s)
    exact ⟨by omega, fun v hv => this.2 v (k.2 v hv)⟩
theorem St.rows {c : Nat} {w : World} {g bm gr : Nat} {F : ByteArray → List Ver} {L : List LRow} (h : St c w g bm gr F L) (hc : c < 1000) : ∀ i, (rvers L i).length ≤ 1000000 ∧ Rises (rvers L i) := by
  intro i
  rcases Nat.lt_or_ge i L.length with hi | hi
  · have e : rrow L i = L[i] := by rw [rrow, List.getElem?_eq_getElem hi]; rfl
    have ev : rvers L i = L[i].2 := congrArg Prod.snd ((rrow_parts L i).symm.trans e)
    have hr := ofL_row h.sorted (List.getElem_mem hi)
    rw [h.agree] at hr
    obtain ⟨n, D, hsp, _⟩ := h.sp
    rw [ev, ← hr]
    exact ⟨by have := (h.bound L[i].1).1; omega, right_rises (hsp.right _)⟩
  · rw [rvers, List.getElem?_eq_none hi]
    exact ⟨by simp, List.Pairwise.nil⟩
theorem undo_part (m : Int) (l : List Ver) : (undoL l m).length ≤ l.length ∧ ∀ v ∈ undoL l m, v ∈ l := ⟨by rw [undoL, List.length_take]; omega, fun v hv => List.mem_of_mem_take hv⟩
theorem clean_part (m : Int) (l : List Ver) : (cleanL l m).length ≤ l.length ∧ ∀ v ∈ cleanL l m, v ∈ l := ⟨by rw [cleanL, List.length_drop]; omega, fun v hv => List.mem_of_mem_drop hv⟩
end Go.Proofs.Ytmahigfamgbhfaa
