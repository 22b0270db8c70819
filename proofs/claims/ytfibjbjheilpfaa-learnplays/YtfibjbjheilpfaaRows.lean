/-
  No cell of these rows narrows 'for every input' (looked for: loops, veiled, ifaces, maps, wideKeys, modest, calm, conditions, laid).
  DERIVED. THE GIVEN ROWS OF THIS SEAT. 4 by the template 'for every input the law returns true; each argument reads behind the call as it read before'; 0 by the template 'total and deterministic' (their statements: YtfibjbjheilpfaaTotals.lean).
  GIVEN WITH THE SEED: the statements are not yours to turn. If you find one false, say at which input.
  Laid BY PROGRAM, IN A SANDBOX (cutbox-rows.mjs): the forced cells as the released guide's own fill.sh prints them over the translation c25b253f4b8ace6a… (all of the seat's roots in one cut). By AI agents, Wed Nov 11 2026. No macro, syntax, notation, axiom, sorry.
-/
import Derived.Test.YtfibjbjheilpfaaChecked
import GoSem.Claim
import GoSem.ClaimJoined
import GoSem.ClaimMapViews
import Derived.JoinedTies
import Derived.KernelRfl
namespace Go.Proofs.Ytfibjbjheilpfaa
/- THE CELL 'sum', in the pinned program and in every row, IS THE sha256 OF THE DUMP (.gsa) THAT YtfibjbjheilpfaaProg.lean LOADS. Nothing in Lean hashes anything: it is a label: what it is worth is what the hold of that sum in a sandbox is worth. -/
noncomputable def Try.pinned : Pinned := { name := "ytfibjbjheilpfaa", sum := "c25b253f4b8ace6a2b7866ad938caff0f2941e8d17ac30622d09e12c843ae5b8", checked := Try.checked }
namespace Rows
def none {H : Type} : Left H := { results := [], args := [] }

/-- 'sautoirlaw19.LearnPlays': WHATEVER THE INPUT: true; the input reads as it did. -/
def learnPlaysSpec : ChangeSpec := { name := "learnPlays", fn := fun _ => fun
  | [d1, d2, d3] => { results := [.lit (.bool true)], args := [d1, d2, d3] }
  | _ => none }
def learnPlaysRow : OpenClaim := { program := "ytfibjbjheilpfaa", sum := "c25b253f4b8ace6a2b7866ad938caff0f2941e8d17ac30622d09e12c843ae5b8", func := "sautoir/sautoirlaw19.LearnPlays", spec := "learnPlays", apart := false }
def LearnPlaysSaid : Prop := learnPlaysRow.holds Try.pinned (OpenSpec.ofChange learnPlaysSpec)

/-- ITS FALSE NEIGHBOUR: 'it returns false'. Refute it at one input. -/
def learnPlaysWrong : ChangeSpec := { name := "learnPlays", fn := fun _ => fun
  | [d1, d2, d3] => { results := [.lit (.bool false)], args := [d1, d2, d3] }
  | _ => none }
def LearnPlaysWrongFalsely : Prop := learnPlaysRow.holds Try.pinned (OpenSpec.ofChange learnPlaysWrong)

/-- 'sautoirlaw19.LearnStays': WHATEVER THE INPUT: true; the input reads as it did. -/
def learnStaysSpec : ChangeSpec := { name := "learnStays", fn := fun _ => fun
  | [d1, d2, d3] => { results := [.lit (.bool true)], args := [d1, d2, d3] }
  | _ => none }
def learnStaysRow : OpenClaim := { program := "ytfibjbjheilpfaa", sum := "c25b253f4b8ace6a2b7866ad938caff0f2941e8d17ac30622d09e12c843ae5b8", func := "sautoir/sautoirlaw19.LearnStays", spec := "learnStays", apart := false }
def LearnStaysSaid : Prop := learnStaysRow.holds Try.pinned (OpenSpec.ofChange learnStaysSpec)

/-- ITS FALSE NEIGHBOUR: 'it returns false'. Refute it at one input. -/
def learnStaysWrong : ChangeSpec := { name := "learnStays", fn := fun _ => fun
  | [d1, d2, d3] => { results := [.lit (.bool false)], args := [d1, d2, d3] }
  | _ => none }
def LearnStaysWrongFalsely : Prop := learnStaysRow.holds Try.pinned (OpenSpec.ofChange learnStaysWrong)

/-- 'sautoirlaw19.LearnMeet': WHATEVER THE INPUT: true; the input reads as it did. -/
def learnMeetSpec : ChangeSpec := { name := "learnMeet", fn := fun _ => fun
  | [d1, d2, d3] => { results := [.lit (.bool true)], args := [d1, d2, d3] }
  | _ => none }
def learnMeetRow : OpenClaim := { program := "ytfibjbjheilpfaa", sum := "c25b253f4b8ace6a2b7866ad938caff0f2941e8d17ac30622d09e12c843ae5b8", func := "sautoir/sautoirlaw19.LearnMeet", spec := "learnMeet", apart := false }
def LearnMeetSaid : Prop := learnMeetRow.holds Try.pinned (OpenSpec.ofChange learnMeetSpec)

/-- ITS FALSE NEIGHBOUR: 'it returns false'. Refute it at one input. -/
def learnMeetWrong : ChangeSpec := { name := "learnMeet", fn := fun _ => fun
  | [d1, d2, d3] => { results := [.lit (.bool false)], args := [d1, d2, d3] }
  | _ => none }
def LearnMeetWrongFalsely : Prop := learnMeetRow.holds Try.pinned (OpenSpec.ofChange learnMeetWrong)

/-- 'sautoirlaw19.LearnNil': WHATEVER THE INPUT: true; the input reads as it did. -/
def learnNilSpec : ChangeSpec := { name := "learnNil", fn := fun _ => fun
  | [d1, d2] => { results := [.lit (.bool true)], args := [d1, d2] }
  | _ => none }
def learnNilRow : OpenClaim := { program := "ytfibjbjheilpfaa", sum := "c25b253f4b8ace6a2b7866ad938caff0f2941e8d17ac30622d09e12c843ae5b8", func := "sautoir/sautoirlaw19.LearnNil", spec := "learnNil", apart := false }
def LearnNilSaid : Prop := learnNilRow.holds Try.pinned (OpenSpec.ofChange learnNilSpec)

/-- ITS FALSE NEIGHBOUR: 'it returns false'. Refute it at one input. -/
def learnNilWrong : ChangeSpec := { name := "learnNil", fn := fun _ => fun
  | [d1, d2] => { results := [.lit (.bool false)], args := [d1, d2] }
  | _ => none }
def LearnNilWrongFalsely : Prop := learnNilRow.holds Try.pinned (OpenSpec.ofChange learnNilWrong)

/- THE SECOND FORM. 'bulk': how many values and letters a reading holds, each counted each time it is reached (what is shared counts as often as it is met; a slice's spare places count too). A statement '..UptoSaid' is the law's where the arguments, and the package variables that the reading takes, are together of bulk at most 1048576: NARROWER than '..Said'. Prove '..Said' where nothing that the law and all that it calls make is longer than what came in: it says more and counts as full. Else prove '..UptoSaid'. A law counts once. -/
mutual
def uptoBulk {H : Type} : DataW H → Nat
  | .lit (.string bytes) => bytes.length + 1
  | .lit _ => 1
  | .nil => 1
  | .ptr d => uptoBulk d + 1
  | .slice elems spare => uptoBulkAll elems + uptoBulkAll spare + 1
  | .agg parts => uptoBulkAll parts + 1
  | .iface _ d => uptoBulk d + 1
  | .map entries => uptoBulkEntries entries + 1
  | .held _ => 1
def uptoBulkAll {H : Type} : List (DataW H) → Nat
  | [] => 0
  | d :: r => uptoBulk d + uptoBulkAll r
def uptoBulkEntries {H : Type} : List (Lit × DataW H) → Nat
  | [] => 0
  | x :: r => uptoBulkEntry x + uptoBulkEntries r
def uptoBulkEntry {H : Type} : Lit × DataW H → Nat
  | (.string bytes, d) => bytes.length + uptoBulk d + 1
  | (_, d) => uptoBulk d + 1
 end
def uptoSmall : (H : Type) → List (DataW H) → Bool := fun _ ds => decide (uptoBulkAll ds ≤ 1048576)
def OpenSpec.upto (s : _root_.Go.ChangeSpec) : _root_.Go.OpenSpec := { _root_.Go.OpenSpec.ofChange s with cond := some uptoSmall }

/-- 'sautoirlaw19.LearnPlays', WHERE WHAT IT READS IS OF BULK AT MOST 1048576: true; the input reads as it did. -/
def learnPlaysUptoRow : OpenClaim := { program := "ytfibjbjheilpfaa", sum := "c25b253f4b8ace6a2b7866ad938caff0f2941e8d17ac30622d09e12c843ae5b8", func := "sautoir/sautoirlaw19.LearnPlays", spec := "learnPlays", apart := false, narrowed := true }
def LearnPlaysUptoSaid : Prop := learnPlaysUptoRow.holds Try.pinned (OpenSpec.upto learnPlaysSpec)

/-- 'sautoirlaw19.LearnStays', WHERE WHAT IT READS IS OF BULK AT MOST 1048576: true; the input reads as it did. -/
def learnStaysUptoRow : OpenClaim := { program := "ytfibjbjheilpfaa", sum := "c25b253f4b8ace6a2b7866ad938caff0f2941e8d17ac30622d09e12c843ae5b8", func := "sautoir/sautoirlaw19.LearnStays", spec := "learnStays", apart := false, narrowed := true }
def LearnStaysUptoSaid : Prop := learnStaysUptoRow.holds Try.pinned (OpenSpec.upto learnStaysSpec)

/-- 'sautoirlaw19.LearnMeet', WHERE WHAT IT READS IS OF BULK AT MOST 1048576: true; the input reads as it did. -/
def learnMeetUptoRow : OpenClaim := { program := "ytfibjbjheilpfaa", sum := "c25b253f4b8ace6a2b7866ad938caff0f2941e8d17ac30622d09e12c843ae5b8", func := "sautoir/sautoirlaw19.LearnMeet", spec := "learnMeet", apart := false, narrowed := true }
def LearnMeetUptoSaid : Prop := learnMeetUptoRow.holds Try.pinned (OpenSpec.upto learnMeetSpec)

/-- 'sautoirlaw19.LearnNil', WHERE WHAT IT READS IS OF BULK AT MOST 1048576: true; the input reads as it did. -/
def learnNilUptoRow : OpenClaim := { program := "ytfibjbjheilpfaa", sum := "c25b253f4b8ace6a2b7866ad938caff0f2941e8d17ac30622d09e12c843ae5b8", func := "sautoir/sautoirlaw19.LearnNil", spec := "learnNil", apart := false, narrowed := true }
def LearnNilUptoSaid : Prop := learnNilUptoRow.holds Try.pinned (OpenSpec.upto learnNilSpec)

end Rows
end Go.Proofs.Ytfibjbjheilpfaa
