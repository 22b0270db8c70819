/-
  No cell of these rows narrows 'for every input' (looked for: loops, veiled, ifaces, maps, wideKeys, modest, calm, conditions, laid).
  DERIVED. THE GIVEN ROWS OF THIS SEAT. 8 by the template 'for every input the law returns true; each argument reads behind the call as it read before'; 0 by the template 'total and deterministic' (their statements: YtbikepmnjgcgkaaTotals.lean).
  GIVEN WITH THE SEED: the statements are not yours to turn. If you find one false, say at which input.
  Laid BY PROGRAM, IN A SANDBOX (cutbox-rows.mjs): the forced cells as the released guide's own fill.sh prints them over the translation b8d76b412228c72f… (all of the seat's roots in one cut). By AI agents, Wed Nov 11 2026. No macro, syntax, notation, axiom, sorry.
-/
import Derived.Test.YtbikepmnjgcgkaaChecked
import GoSem.Claim
import GoSem.ClaimJoined
import GoSem.ClaimMapViews
import Derived.JoinedTies
import Derived.KernelRfl
namespace Go.Proofs.Ytbikepmnjgcgkaa
/- THE CELL 'sum', in the pinned program and in every row, IS THE sha256 OF THE DUMP (.gsa) THAT YtbikepmnjgcgkaaProg.lean LOADS. Nothing in Lean hashes anything: it is a label: what it is worth is what the hold of that sum in a sandbox is worth. -/
noncomputable def Try.pinned : Pinned := { name := "ytbikepmnjgcgkaa", sum := "b8d76b412228c72fc36b1042f804d296b11c4d4e5013cec316428752a7b1ea43", checked := Try.checked }
namespace Rows
def none {H : Type} : Left H := { results := [], args := [] }

/-- 'sautoirlaw07.BallotOrder': WHATEVER THE INPUT: true; the input reads as it did. -/
def ballotOrderSpec : ChangeSpec := { name := "ballotOrder", fn := fun _ => fun
  | [d1, d2, d3] => { results := [.lit (.bool true)], args := [d1, d2, d3] }
  | _ => none }
def ballotOrderRow : OpenClaim := { program := "ytbikepmnjgcgkaa", sum := "b8d76b412228c72fc36b1042f804d296b11c4d4e5013cec316428752a7b1ea43", func := "sautoir/sautoirlaw07.BallotOrder", spec := "ballotOrder", apart := false }
def BallotOrderSaid : Prop := ballotOrderRow.holds Try.pinned (OpenSpec.ofChange ballotOrderSpec)

/-- ITS FALSE NEIGHBOUR: 'it returns false'. Refute it at one input. -/
def ballotOrderWrong : ChangeSpec := { name := "ballotOrder", fn := fun _ => fun
  | [d1, d2, d3] => { results := [.lit (.bool false)], args := [d1, d2, d3] }
  | _ => none }
def BallotOrderWrongFalsely : Prop := ballotOrderRow.holds Try.pinned (OpenSpec.ofChange ballotOrderWrong)

/-- 'sautoirlaw07.BallotNext': WHATEVER THE INPUT: true; the input reads as it did. -/
def ballotNextSpec : ChangeSpec := { name := "ballotNext", fn := fun _ => fun
  | [d1, d2] => { results := [.lit (.bool true)], args := [d1, d2] }
  | _ => none }
def ballotNextRow : OpenClaim := { program := "ytbikepmnjgcgkaa", sum := "b8d76b412228c72fc36b1042f804d296b11c4d4e5013cec316428752a7b1ea43", func := "sautoir/sautoirlaw07.BallotNext", spec := "ballotNext", apart := false }
def BallotNextSaid : Prop := ballotNextRow.holds Try.pinned (OpenSpec.ofChange ballotNextSpec)

/-- ITS FALSE NEIGHBOUR: 'it returns false'. Refute it at one input. -/
def ballotNextWrong : ChangeSpec := { name := "ballotNext", fn := fun _ => fun
  | [d1, d2] => { results := [.lit (.bool false)], args := [d1, d2] }
  | _ => none }
def BallotNextWrongFalsely : Prop := ballotNextRow.holds Try.pinned (OpenSpec.ofChange ballotNextWrong)

/-- 'sautoirlaw07.BallotBytes': WHATEVER THE INPUT: true; the input reads as it did. -/
def ballotBytesSpec : ChangeSpec := { name := "ballotBytes", fn := fun _ => fun
  | [d1, d2] => { results := [.lit (.bool true)], args := [d1, d2] }
  | _ => none }
def ballotBytesRow : OpenClaim := { program := "ytbikepmnjgcgkaa", sum := "b8d76b412228c72fc36b1042f804d296b11c4d4e5013cec316428752a7b1ea43", func := "sautoir/sautoirlaw07.BallotBytes", spec := "ballotBytes", recurses := true, apart := false }
def BallotBytesSaid : Prop := ballotBytesRow.holds Try.pinned (OpenSpec.ofChange ballotBytesSpec)

/-- ITS FALSE NEIGHBOUR: 'it returns false'. Refute it at one input. -/
def ballotBytesWrong : ChangeSpec := { name := "ballotBytes", fn := fun _ => fun
  | [d1, d2] => { results := [.lit (.bool false)], args := [d1, d2] }
  | _ => none }
def BallotBytesWrongFalsely : Prop := ballotBytesRow.holds Try.pinned (OpenSpec.ofChange ballotBytesWrong)

/-- 'sautoirlaw07.BallotVotes': WHATEVER THE INPUT: true; the input reads as it did. -/
def ballotVotesSpec : ChangeSpec := { name := "ballotVotes", fn := fun _ => fun
  | [d1, d2, d3] => { results := [.lit (.bool true)], args := [d1, d2, d3] }
  | _ => none }
def ballotVotesRow : OpenClaim := { program := "ytbikepmnjgcgkaa", sum := "b8d76b412228c72fc36b1042f804d296b11c4d4e5013cec316428752a7b1ea43", func := "sautoir/sautoirlaw07.BallotVotes", spec := "ballotVotes", apart := false }
def BallotVotesSaid : Prop := ballotVotesRow.holds Try.pinned (OpenSpec.ofChange ballotVotesSpec)

/-- ITS FALSE NEIGHBOUR: 'it returns false'. Refute it at one input. -/
def ballotVotesWrong : ChangeSpec := { name := "ballotVotes", fn := fun _ => fun
  | [d1, d2, d3] => { results := [.lit (.bool false)], args := [d1, d2, d3] }
  | _ => none }
def BallotVotesWrongFalsely : Prop := ballotVotesRow.holds Try.pinned (OpenSpec.ofChange ballotVotesWrong)

/-- 'sautoirlaw07.BallotMeet': WHATEVER THE INPUT: true; the input reads as it did. -/
def ballotMeetSpec : ChangeSpec := { name := "ballotMeet", fn := fun _ => fun
  | [d1, d2, d3] => { results := [.lit (.bool true)], args := [d1, d2, d3] }
  | _ => none }
def ballotMeetRow : OpenClaim := { program := "ytbikepmnjgcgkaa", sum := "b8d76b412228c72fc36b1042f804d296b11c4d4e5013cec316428752a7b1ea43", func := "sautoir/sautoirlaw07.BallotMeet", spec := "ballotMeet", apart := false }
def BallotMeetSaid : Prop := ballotMeetRow.holds Try.pinned (OpenSpec.ofChange ballotMeetSpec)

/-- ITS FALSE NEIGHBOUR: 'it returns false'. Refute it at one input. -/
def ballotMeetWrong : ChangeSpec := { name := "ballotMeet", fn := fun _ => fun
  | [d1, d2, d3] => { results := [.lit (.bool false)], args := [d1, d2, d3] }
  | _ => none }
def BallotMeetWrongFalsely : Prop := ballotMeetRow.holds Try.pinned (OpenSpec.ofChange ballotMeetWrong)

/-- 'sautoirlaw08.KeysRight': WHATEVER THE INPUT: true; the input reads as it did. -/
def keysRightSpec : ChangeSpec := { name := "keysRight", fn := fun _ => fun
  | [d] => { results := [.lit (.bool true)], args := [d] }
  | _ => none }
def keysRightRow : OpenClaim := { program := "ytbikepmnjgcgkaa", sum := "b8d76b412228c72fc36b1042f804d296b11c4d4e5013cec316428752a7b1ea43", func := "sautoir/sautoirlaw08.KeysRight", spec := "keysRight", apart := false }
def KeysRightSaid : Prop := keysRightRow.holds Try.pinned (OpenSpec.ofChange keysRightSpec)

/-- ITS FALSE NEIGHBOUR: 'it returns false'. Refute it at one input. -/
def keysRightWrong : ChangeSpec := { name := "keysRight", fn := fun _ => fun
  | [d] => { results := [.lit (.bool false)], args := [d] }
  | _ => none }
def KeysRightWrongFalsely : Prop := keysRightRow.holds Try.pinned (OpenSpec.ofChange keysRightWrong)

/-- 'sautoirlaw08.KeysNumber': WHATEVER THE INPUT: true; the input reads as it did. -/
def keysNumberSpec : ChangeSpec := { name := "keysNumber", fn := fun _ => fun
  | [d1, d2] => { results := [.lit (.bool true)], args := [d1, d2] }
  | _ => none }
def keysNumberRow : OpenClaim := { program := "ytbikepmnjgcgkaa", sum := "b8d76b412228c72fc36b1042f804d296b11c4d4e5013cec316428752a7b1ea43", func := "sautoir/sautoirlaw08.KeysNumber", spec := "keysNumber", apart := false }
def KeysNumberSaid : Prop := keysNumberRow.holds Try.pinned (OpenSpec.ofChange keysNumberSpec)

/-- ITS FALSE NEIGHBOUR: 'it returns false'. Refute it at one input. -/
def keysNumberWrong : ChangeSpec := { name := "keysNumber", fn := fun _ => fun
  | [d1, d2] => { results := [.lit (.bool false)], args := [d1, d2] }
  | _ => none }
def KeysNumberWrongFalsely : Prop := keysNumberRow.holds Try.pinned (OpenSpec.ofChange keysNumberWrong)

/-- 'sautoirlaw08.KeysShards': WHATEVER THE INPUT: true; the input reads as it did. -/
def keysShardsSpec : ChangeSpec := { name := "keysShards", fn := fun _ => fun
  | [d1, d2] => { results := [.lit (.bool true)], args := [d1, d2] }
  | _ => none }
def keysShardsRow : OpenClaim := { program := "ytbikepmnjgcgkaa", sum := "b8d76b412228c72fc36b1042f804d296b11c4d4e5013cec316428752a7b1ea43", func := "sautoir/sautoirlaw08.KeysShards", spec := "keysShards", apart := false }
def KeysShardsSaid : Prop := keysShardsRow.holds Try.pinned (OpenSpec.ofChange keysShardsSpec)

/-- ITS FALSE NEIGHBOUR: 'it returns false'. Refute it at one input. -/
def keysShardsWrong : ChangeSpec := { name := "keysShards", fn := fun _ => fun
  | [d1, d2] => { results := [.lit (.bool false)], args := [d1, d2] }
  | _ => none }
def KeysShardsWrongFalsely : Prop := keysShardsRow.holds Try.pinned (OpenSpec.ofChange keysShardsWrong)

/- THE SECOND FORM. 'bulk': how many values and letters a reading holds, each counted each time it is reached (what is shared counts as often as it is met; a slice's spare places count too). A statement '..UptoSaid' is the law's where the arguments, and the package variables that the reading takes, are together of bulk at most 1048576: NARROWER than '..Said'. Prove '..Said' where nothing that the law and all that it calls make is longer than what came in: it says more and counts as full. Else prove '..UptoSaid'. A law counts once. -/
mutual
def uptoBulk {H : Type} : DataW H → Nat
  | .lit (.string bytes) => bytes.length + 1
  | .lit _ => 1
  | .nil => 1
  | .ptr d => uptoBulk d + 1
  | .slice elems spare => uptoBulkAll elems + uptoBulkAll spare + 1
  | .agg parts => uptoBulkAll parts + 1
  | .iface _ d => uptoBulk d + 1
  | .map entries => uptoBulkEntries entries + 1
  | .held _ => 1
def uptoBulkAll {H : Type} : List (DataW H) → Nat
  | [] => 0
  | d :: r => uptoBulk d + uptoBulkAll r
def uptoBulkEntries {H : Type} : List (Lit × DataW H) → Nat
  | [] => 0
  | x :: r => uptoBulkEntry x + uptoBulkEntries r
def uptoBulkEntry {H : Type} : Lit × DataW H → Nat
  | (.string bytes, d) => bytes.length + uptoBulk d + 1
  | (_, d) => uptoBulk d + 1
 end
def uptoSmall : (H : Type) → List (DataW H) → Bool := fun _ ds => decide (uptoBulkAll ds ≤ 1048576)
def OpenSpec.upto (s : _root_.Go.ChangeSpec) : _root_.Go.OpenSpec := { _root_.Go.OpenSpec.ofChange s with cond := some uptoSmall }

/-- 'sautoirlaw07.BallotOrder', WHERE WHAT IT READS IS OF BULK AT MOST 1048576: true; the input reads as it did. -/
def ballotOrderUptoRow : OpenClaim := { program := "ytbikepmnjgcgkaa", sum := "b8d76b412228c72fc36b1042f804d296b11c4d4e5013cec316428752a7b1ea43", func := "sautoir/sautoirlaw07.BallotOrder", spec := "ballotOrder", apart := false, narrowed := true }
def BallotOrderUptoSaid : Prop := ballotOrderUptoRow.holds Try.pinned (OpenSpec.upto ballotOrderSpec)

/-- 'sautoirlaw07.BallotNext', WHERE WHAT IT READS IS OF BULK AT MOST 1048576: true; the input reads as it did. -/
def ballotNextUptoRow : OpenClaim := { program := "ytbikepmnjgcgkaa", sum := "b8d76b412228c72fc36b1042f804d296b11c4d4e5013cec316428752a7b1ea43", func := "sautoir/sautoirlaw07.BallotNext", spec := "ballotNext", apart := false, narrowed := true }
def BallotNextUptoSaid : Prop := ballotNextUptoRow.holds Try.pinned (OpenSpec.upto ballotNextSpec)

/-- 'sautoirlaw07.BallotBytes', WHERE WHAT IT READS IS OF BULK AT MOST 1048576: true; the input reads as it did. -/
def ballotBytesUptoRow : OpenClaim := { program := "ytbikepmnjgcgkaa", sum := "b8d76b412228c72fc36b1042f804d296b11c4d4e5013cec316428752a7b1ea43", func := "sautoir/sautoirlaw07.BallotBytes", spec := "ballotBytes", recurses := true, apart := false, narrowed := true }
def BallotBytesUptoSaid : Prop := ballotBytesUptoRow.holds Try.pinned (OpenSpec.upto ballotBytesSpec)

/-- 'sautoirlaw07.BallotVotes', WHERE WHAT IT READS IS OF BULK AT MOST 1048576: true; the input reads as it did. -/
def ballotVotesUptoRow : OpenClaim := { program := "ytbikepmnjgcgkaa", sum := "b8d76b412228c72fc36b1042f804d296b11c4d4e5013cec316428752a7b1ea43", func := "sautoir/sautoirlaw07.BallotVotes", spec := "ballotVotes", apart := false, narrowed := true }
def BallotVotesUptoSaid : Prop := ballotVotesUptoRow.holds Try.pinned (OpenSpec.upto ballotVotesSpec)

/-- 'sautoirlaw07.BallotMeet', WHERE WHAT IT READS IS OF BULK AT MOST 1048576: true; the input reads as it did. -/
def ballotMeetUptoRow : OpenClaim := { program := "ytbikepmnjgcgkaa", sum := "b8d76b412228c72fc36b1042f804d296b11c4d4e5013cec316428752a7b1ea43", func := "sautoir/sautoirlaw07.BallotMeet", spec := "ballotMeet", apart := false, narrowed := true }
def BallotMeetUptoSaid : Prop := ballotMeetUptoRow.holds Try.pinned (OpenSpec.upto ballotMeetSpec)

/-- 'sautoirlaw08.KeysRight', WHERE WHAT IT READS IS OF BULK AT MOST 1048576: true; the input reads as it did. -/
def keysRightUptoRow : OpenClaim := { program := "ytbikepmnjgcgkaa", sum := "b8d76b412228c72fc36b1042f804d296b11c4d4e5013cec316428752a7b1ea43", func := "sautoir/sautoirlaw08.KeysRight", spec := "keysRight", apart := false, narrowed := true }
def KeysRightUptoSaid : Prop := keysRightUptoRow.holds Try.pinned (OpenSpec.upto keysRightSpec)

/-- 'sautoirlaw08.KeysNumber', WHERE WHAT IT READS IS OF BULK AT MOST 1048576: true; the input reads as it did. -/
def keysNumberUptoRow : OpenClaim := { program := "ytbikepmnjgcgkaa", sum := "b8d76b412228c72fc36b1042f804d296b11c4d4e5013cec316428752a7b1ea43", func := "sautoir/sautoirlaw08.KeysNumber", spec := "keysNumber", apart := false, narrowed := true }
def KeysNumberUptoSaid : Prop := keysNumberUptoRow.holds Try.pinned (OpenSpec.upto keysNumberSpec)

/-- 'sautoirlaw08.KeysShards', WHERE WHAT IT READS IS OF BULK AT MOST 1048576: true; the input reads as it did. -/
def keysShardsUptoRow : OpenClaim := { program := "ytbikepmnjgcgkaa", sum := "b8d76b412228c72fc36b1042f804d296b11c4d4e5013cec316428752a7b1ea43", func := "sautoir/sautoirlaw08.KeysShards", spec := "keysShards", apart := false, narrowed := true }
def KeysShardsUptoSaid : Prop := keysShardsUptoRow.holds Try.pinned (OpenSpec.upto keysShardsSpec)

end Rows
end Go.Proofs.Ytbikepmnjgcgkaa
