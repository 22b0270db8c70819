/-
  No cell of these rows narrows 'for every input' (looked for: loops, veiled, ifaces, maps, wideKeys, modest, calm, conditions, laid).
  DERIVED. THE GIVEN ROWS OF THIS SEAT. 8 by the template 'for every input the law returns true; each argument reads behind the call as it read before'; 0 by the template 'total and deterministic' (their statements: YtmahigfamgbhfaaTotals.lean).
  GIVEN WITH THE SEED: the statements are not yours to turn. If you find one false, say at which input.
  Laid BY PROGRAM, IN A SANDBOX (cutbox-rows.mjs): the forced cells as the released guide's own fill.sh prints them over the translation 462476276904808a… (all of the seat's roots in one cut). By AI agents, Wed Nov 11 2026. No macro, syntax, notation, axiom, sorry.
-/
import Derived.Test.YtmahigfamgbhfaaChecked
import GoSem.Claim
import GoSem.ClaimJoined
import GoSem.ClaimMapViews
import Derived.JoinedTies
import Derived.KernelRfl
namespace Go.Proofs.Ytmahigfamgbhfaa
/- THE CELL 'sum', in the pinned program and in every row, IS THE sha256 OF THE DUMP (.gsa) THAT YtmahigfamgbhfaaProg.lean LOADS. Nothing in Lean hashes anything: it is a label: what it is worth is what the hold of that sum in a sandbox is worth. -/
noncomputable def Try.pinned : Pinned := { name := "ytmahigfamgbhfaa", sum := "462476276904808aabec585c1cc1081eee2ee93ad35550a9d266b2262cde6aed", checked := Try.checked }
namespace Rows
def none {H : Type} : Left H := { results := [], args := [] }

/-- 'sautoirlaw09.ObjectRight': WHATEVER THE INPUT: true; the input reads as it did. -/
def objectRightSpec : ChangeSpec := { name := "objectRight", fn := fun _ => fun
  | [d1, d2, d3, d4] => { results := [.lit (.bool true)], args := [d1, d2, d3, d4] }
  | _ => none }
def objectRightRow : OpenClaim := { program := "ytmahigfamgbhfaa", sum := "462476276904808aabec585c1cc1081eee2ee93ad35550a9d266b2262cde6aed", func := "sautoir/sautoirlaw09.ObjectRight", spec := "objectRight", unfollowed := true, recurses := true, apart := false }
def ObjectRightSaid : Prop := objectRightRow.holds Try.pinned (OpenSpec.ofChange objectRightSpec)

/-- ITS FALSE NEIGHBOUR: 'it returns false'. Refute it at one input. -/
def objectRightWrong : ChangeSpec := { name := "objectRight", fn := fun _ => fun
  | [d1, d2, d3, d4] => { results := [.lit (.bool false)], args := [d1, d2, d3, d4] }
  | _ => none }
def ObjectRightWrongFalsely : Prop := objectRightRow.holds Try.pinned (OpenSpec.ofChange objectRightWrong)

/-- 'sautoirlaw09.ObjectPut': WHATEVER THE INPUT: true; the input reads as it did. -/
def objectPutSpec : ChangeSpec := { name := "objectPut", fn := fun _ => fun
  | [d1, d2, d3, d4] => { results := [.lit (.bool true)], args := [d1, d2, d3, d4] }
  | _ => none }
def objectPutRow : OpenClaim := { program := "ytmahigfamgbhfaa", sum := "462476276904808aabec585c1cc1081eee2ee93ad35550a9d266b2262cde6aed", func := "sautoir/sautoirlaw09.ObjectPut", spec := "objectPut", unfollowed := true, recurses := true, apart := false }
def ObjectPutSaid : Prop := objectPutRow.holds Try.pinned (OpenSpec.ofChange objectPutSpec)

/-- ITS FALSE NEIGHBOUR: 'it returns false'. Refute it at one input. -/
def objectPutWrong : ChangeSpec := { name := "objectPut", fn := fun _ => fun
  | [d1, d2, d3, d4] => { results := [.lit (.bool false)], args := [d1, d2, d3, d4] }
  | _ => none }
def ObjectPutWrongFalsely : Prop := objectPutRow.holds Try.pinned (OpenSpec.ofChange objectPutWrong)

/-- 'sautoirlaw09.ObjectReads': WHATEVER THE INPUT: true; the input reads as it did. -/
def objectReadsSpec : ChangeSpec := { name := "objectReads", fn := fun _ => fun
  | [d1, d2] => { results := [.lit (.bool true)], args := [d1, d2] }
  | _ => none }
def objectReadsRow : OpenClaim := { program := "ytmahigfamgbhfaa", sum := "462476276904808aabec585c1cc1081eee2ee93ad35550a9d266b2262cde6aed", func := "sautoir/sautoirlaw09.ObjectReads", spec := "objectReads", unfollowed := true, recurses := true, apart := false }
def ObjectReadsSaid : Prop := objectReadsRow.holds Try.pinned (OpenSpec.ofChange objectReadsSpec)

/-- ITS FALSE NEIGHBOUR: 'it returns false'. Refute it at one input. -/
def objectReadsWrong : ChangeSpec := { name := "objectReads", fn := fun _ => fun
  | [d1, d2] => { results := [.lit (.bool false)], args := [d1, d2] }
  | _ => none }
def ObjectReadsWrongFalsely : Prop := objectReadsRow.holds Try.pinned (OpenSpec.ofChange objectReadsWrong)

/-- 'sautoirlaw09.ObjectClean': WHATEVER THE INPUT: true; the input reads as it did. -/
def objectCleanSpec : ChangeSpec := { name := "objectClean", fn := fun _ => fun
  | [d1, d2, d3] => { results := [.lit (.bool true)], args := [d1, d2, d3] }
  | _ => none }
def objectCleanRow : OpenClaim := { program := "ytmahigfamgbhfaa", sum := "462476276904808aabec585c1cc1081eee2ee93ad35550a9d266b2262cde6aed", func := "sautoir/sautoirlaw09.ObjectClean", spec := "objectClean", unfollowed := true, recurses := true, apart := false }
def ObjectCleanSaid : Prop := objectCleanRow.holds Try.pinned (OpenSpec.ofChange objectCleanSpec)

/-- ITS FALSE NEIGHBOUR: 'it returns false'. Refute it at one input. -/
def objectCleanWrong : ChangeSpec := { name := "objectClean", fn := fun _ => fun
  | [d1, d2, d3] => { results := [.lit (.bool false)], args := [d1, d2, d3] }
  | _ => none }
def ObjectCleanWrongFalsely : Prop := objectCleanRow.holds Try.pinned (OpenSpec.ofChange objectCleanWrong)

/-- 'sautoirlaw10.SpacePlays': WHATEVER THE INPUT: true; the input reads as it did. -/
def spacePlaysSpec : ChangeSpec := { name := "spacePlays", fn := fun _ => fun
  | [d1, d2, d3] => { results := [.lit (.bool true)], args := [d1, d2, d3] }
  | _ => none }
def spacePlaysRow : OpenClaim := { program := "ytmahigfamgbhfaa", sum := "462476276904808aabec585c1cc1081eee2ee93ad35550a9d266b2262cde6aed", func := "sautoir/sautoirlaw10.SpacePlays", spec := "spacePlays", unfollowed := true, recurses := true, apart := false }
def SpacePlaysSaid : Prop := spacePlaysRow.holds Try.pinned (OpenSpec.ofChange spacePlaysSpec)

/-- ITS FALSE NEIGHBOUR: 'it returns false'. Refute it at one input. -/
def spacePlaysWrong : ChangeSpec := { name := "spacePlays", fn := fun _ => fun
  | [d1, d2, d3] => { results := [.lit (.bool false)], args := [d1, d2, d3] }
  | _ => none }
def SpacePlaysWrongFalsely : Prop := spacePlaysRow.holds Try.pinned (OpenSpec.ofChange spacePlaysWrong)

/-- 'sautoirlaw10.SpaceApart': WHATEVER THE INPUT: true; the input reads as it did. -/
def spaceApartSpec : ChangeSpec := { name := "spaceApart", fn := fun _ => fun
  | [d1, d2, d3, d4] => { results := [.lit (.bool true)], args := [d1, d2, d3, d4] }
  | _ => none }
def spaceApartRow : OpenClaim := { program := "ytmahigfamgbhfaa", sum := "462476276904808aabec585c1cc1081eee2ee93ad35550a9d266b2262cde6aed", func := "sautoir/sautoirlaw10.SpaceApart", spec := "spaceApart", unfollowed := true, recurses := true, apart := false }
def SpaceApartSaid : Prop := spaceApartRow.holds Try.pinned (OpenSpec.ofChange spaceApartSpec)

/-- ITS FALSE NEIGHBOUR: 'it returns false'. Refute it at one input. -/
def spaceApartWrong : ChangeSpec := { name := "spaceApart", fn := fun _ => fun
  | [d1, d2, d3, d4] => { results := [.lit (.bool false)], args := [d1, d2, d3, d4] }
  | _ => none }
def SpaceApartWrongFalsely : Prop := spaceApartRow.holds Try.pinned (OpenSpec.ofChange spaceApartWrong)

/-- 'sautoirlaw10.SpaceSame': WHATEVER THE INPUT: true; the input reads as it did. -/
def spaceSameSpec : ChangeSpec := { name := "spaceSame", fn := fun _ => fun
  | [d1, d2] => { results := [.lit (.bool true)], args := [d1, d2] }
  | _ => none }
def spaceSameRow : OpenClaim := { program := "ytmahigfamgbhfaa", sum := "462476276904808aabec585c1cc1081eee2ee93ad35550a9d266b2262cde6aed", func := "sautoir/sautoirlaw10.SpaceSame", spec := "spaceSame", unfollowed := true, recurses := true, apart := false }
def SpaceSameSaid : Prop := spaceSameRow.holds Try.pinned (OpenSpec.ofChange spaceSameSpec)

/-- ITS FALSE NEIGHBOUR: 'it returns false'. Refute it at one input. -/
def spaceSameWrong : ChangeSpec := { name := "spaceSame", fn := fun _ => fun
  | [d1, d2] => { results := [.lit (.bool false)], args := [d1, d2] }
  | _ => none }
def SpaceSameWrongFalsely : Prop := spaceSameRow.holds Try.pinned (OpenSpec.ofChange spaceSameWrong)

/-- 'sautoirlaw10.SpaceNil': WHATEVER THE INPUT: true; the input reads as it did. -/
def spaceNilSpec : ChangeSpec := { name := "spaceNil", fn := fun _ => fun
  | [d] => { results := [.lit (.bool true)], args := [d] }
  | _ => none }
def spaceNilRow : OpenClaim := { program := "ytmahigfamgbhfaa", sum := "462476276904808aabec585c1cc1081eee2ee93ad35550a9d266b2262cde6aed", func := "sautoir/sautoirlaw10.SpaceNil", spec := "spaceNil", unfollowed := true, recurses := true, apart := false }
def SpaceNilSaid : Prop := spaceNilRow.holds Try.pinned (OpenSpec.ofChange spaceNilSpec)

/-- ITS FALSE NEIGHBOUR: 'it returns false'. Refute it at one input. -/
def spaceNilWrong : ChangeSpec := { name := "spaceNil", fn := fun _ => fun
  | [d] => { results := [.lit (.bool false)], args := [d] }
  | _ => none }
def SpaceNilWrongFalsely : Prop := spaceNilRow.holds Try.pinned (OpenSpec.ofChange spaceNilWrong)

/- THE SECOND FORM. 'bulk': how many values and letters a reading holds, each counted each time it is reached (what is shared counts as often as it is met; a slice's spare places count too). A statement '..UptoSaid' is the law's where the arguments, and the package variables that the reading takes, are together of bulk at most 1048576: NARROWER than '..Said'. Prove '..Said' where nothing that the law and all that it calls make is longer than what came in: it says more and counts as full. Else prove '..UptoSaid'. A law counts once. -/
mutual
def uptoBulk {H : Type} : DataW H → Nat
  | .lit (.string bytes) => bytes.length + 1
  | .lit _ => 1
  | .nil => 1
  | .ptr d => uptoBulk d + 1
  | .slice elems spare => uptoBulkAll elems + uptoBulkAll spare + 1
  | .agg parts => uptoBulkAll parts + 1
  | .iface _ d => uptoBulk d + 1
  | .map entries => uptoBulkEntries entries + 1
  | .held _ => 1
def uptoBulkAll {H : Type} : List (DataW H) → Nat
  | [] => 0
  | d :: r => uptoBulk d + uptoBulkAll r
def uptoBulkEntries {H : Type} : List (Lit × DataW H) → Nat
  | [] => 0
  | x :: r => uptoBulkEntry x + uptoBulkEntries r
def uptoBulkEntry {H : Type} : Lit × DataW H → Nat
  | (.string bytes, d) => bytes.length + uptoBulk d + 1
  | (_, d) => uptoBulk d + 1
 end
def uptoSmall : (H : Type) → List (DataW H) → Bool := fun _ ds => decide (uptoBulkAll ds ≤ 1048576)
def OpenSpec.upto (s : _root_.Go.ChangeSpec) : _root_.Go.OpenSpec := { _root_.Go.OpenSpec.ofChange s with cond := some uptoSmall }

/-- 'sautoirlaw09.ObjectRight', WHERE WHAT IT READS IS OF BULK AT MOST 1048576: true; the input reads as it did. -/
def objectRightUptoRow : OpenClaim := { program := "ytmahigfamgbhfaa", sum := "462476276904808aabec585c1cc1081eee2ee93ad35550a9d266b2262cde6aed", func := "sautoir/sautoirlaw09.ObjectRight", spec := "objectRight", unfollowed := true, recurses := true, apart := false, narrowed := true }
def ObjectRightUptoSaid : Prop := objectRightUptoRow.holds Try.pinned (OpenSpec.upto objectRightSpec)

/-- 'sautoirlaw09.ObjectPut', WHERE WHAT IT READS IS OF BULK AT MOST 1048576: true; the input reads as it did. -/
def objectPutUptoRow : OpenClaim := { program := "ytmahigfamgbhfaa", sum := "462476276904808aabec585c1cc1081eee2ee93ad35550a9d266b2262cde6aed", func := "sautoir/sautoirlaw09.ObjectPut", spec := "objectPut", unfollowed := true, recurses := true, apart := false, narrowed := true }
def ObjectPutUptoSaid : Prop := objectPutUptoRow.holds Try.pinned (OpenSpec.upto objectPutSpec)

/-- 'sautoirlaw09.ObjectReads', WHERE WHAT IT READS IS OF BULK AT MOST 1048576: true; the input reads as it did. -/
def objectReadsUptoRow : OpenClaim := { program := "ytmahigfamgbhfaa", sum := "462476276904808aabec585c1cc1081eee2ee93ad35550a9d266b2262cde6aed", func := "sautoir/sautoirlaw09.ObjectReads", spec := "objectReads", unfollowed := true, recurses := true, apart := false, narrowed := true }
def ObjectReadsUptoSaid : Prop := objectReadsUptoRow.holds Try.pinned (OpenSpec.upto objectReadsSpec)

/-- 'sautoirlaw09.ObjectClean', WHERE WHAT IT READS IS OF BULK AT MOST 1048576: true; the input reads as it did. -/
def objectCleanUptoRow : OpenClaim := { program := "ytmahigfamgbhfaa", sum := "462476276904808aabec585c1cc1081eee2ee93ad35550a9d266b2262cde6aed", func := "sautoir/sautoirlaw09.ObjectClean", spec := "objectClean", unfollowed := true, recurses := true, apart := false, narrowed := true }
def ObjectCleanUptoSaid : Prop := objectCleanUptoRow.holds Try.pinned (OpenSpec.upto objectCleanSpec)

/-- 'sautoirlaw10.SpacePlays', WHERE WHAT IT READS IS OF BULK AT MOST 1048576: true; the input reads as it did. -/
def spacePlaysUptoRow : OpenClaim := { program := "ytmahigfamgbhfaa", sum := "462476276904808aabec585c1cc1081eee2ee93ad35550a9d266b2262cde6aed", func := "sautoir/sautoirlaw10.SpacePlays", spec := "spacePlays", unfollowed := true, recurses := true, apart := false, narrowed := true }
def SpacePlaysUptoSaid : Prop := spacePlaysUptoRow.holds Try.pinned (OpenSpec.upto spacePlaysSpec)

/-- 'sautoirlaw10.SpaceApart', WHERE WHAT IT READS IS OF BULK AT MOST 1048576: true; the input reads as it did. -/
def spaceApartUptoRow : OpenClaim := { program := "ytmahigfamgbhfaa", sum := "462476276904808aabec585c1cc1081eee2ee93ad35550a9d266b2262cde6aed", func := "sautoir/sautoirlaw10.SpaceApart", spec := "spaceApart", unfollowed := true, recurses := true, apart := false, narrowed := true }
def SpaceApartUptoSaid : Prop := spaceApartUptoRow.holds Try.pinned (OpenSpec.upto spaceApartSpec)

/-- 'sautoirlaw10.SpaceSame', WHERE WHAT IT READS IS OF BULK AT MOST 1048576: true; the input reads as it did. -/
def spaceSameUptoRow : OpenClaim := { program := "ytmahigfamgbhfaa", sum := "462476276904808aabec585c1cc1081eee2ee93ad35550a9d266b2262cde6aed", func := "sautoir/sautoirlaw10.SpaceSame", spec := "spaceSame", unfollowed := true, recurses := true, apart := false, narrowed := true }
def SpaceSameUptoSaid : Prop := spaceSameUptoRow.holds Try.pinned (OpenSpec.upto spaceSameSpec)

/-- 'sautoirlaw10.SpaceNil', WHERE WHAT IT READS IS OF BULK AT MOST 1048576: true; the input reads as it did. -/
def spaceNilUptoRow : OpenClaim := { program := "ytmahigfamgbhfaa", sum := "462476276904808aabec585c1cc1081eee2ee93ad35550a9d266b2262cde6aed", func := "sautoir/sautoirlaw10.SpaceNil", spec := "spaceNil", unfollowed := true, recurses := true, apart := false, narrowed := true }
def SpaceNilUptoSaid : Prop := spaceNilUptoRow.holds Try.pinned (OpenSpec.upto spaceNilSpec)

end Rows
end Go.Proofs.Ytmahigfamgbhfaa
