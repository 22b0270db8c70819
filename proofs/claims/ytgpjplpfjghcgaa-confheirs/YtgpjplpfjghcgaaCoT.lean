/- A change of both. -/
import Derived.Test.YtgpjplpfjghcgaaCoR
namespace Go.Proofs.Ytgpjplpfjghcgaa
open Go Go.RowKit
set_option linter.unusedVariables false
set_option linter.unusedSimpArgs false

def turnC (c : Cf) (kd x : Int) (e : Nat) : Cf × Int :=
  if kd = 0 then removeC c x e else if kd = 1 then learnC c x e else if kd = 2 then promoteC c x e else markC c x
theorem Cfo.mono {w : World} {base b2 : Nat} {v : Value} {c : Cf} (h : Cfo w base v c) (hb : b2 ≤ base) : Cfo w b2 v c := by
  obtain ⟨va, vb, rfl, h1, h2, h3⟩ := h
  exact ⟨va, vb, rfl, owns_mono h1 hb, owns_mono h2 hb, h3⟩
theorem Mrow.ne {w : World} {b off g : Nat} {l : List Mb} {cs : Array Value} {t : TypeId} {m : Nat × Nat} (h : Mrow w (some ⟨b, off, none⟩) l) (h0 : 0 < l.length) (hg : w.heap[g]? = some (.cells cs t m)) (hno : cs.toList.all (fun v => match v with | .bool _ => false | _ => true) = true) : b ≠ g := by
  intro e
  subst e
  obtain ⟨b', off', e, hc⟩ := h.at h0
  simp only [Option.some.injEq, Addr.mk.injEq] at e
  obtain ⟨rfl, rfl, _⟩ := e
  have h1 := (hc 0 _ (List.getElem?_eq_getElem h0)).2
  simp only [World.cell?, hg] at h1
  rw [List.all_eq_true] at hno
  have h2 : Value.bool l[0].2 ∈ cs.toList := by
    rw [← Array.getElem?_toList] at h1
    exact List.mem_of_getElem? h1
  have := hno _ h2
  simp at this

end Go.Proofs.Ytgpjplpfjghcgaa
