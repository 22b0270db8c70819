/-
  DERIVED. GIVEN WITH THE SEED: THE CARDS: each row of YteokhedljfakkaaDoorRows.lean that lists a variable, with what it lists TIED to the program's text (the seventh form; the later family's looks); each row that meets fmt, with fmt's text TOLD by the authors' own Lean function (tested against real Go, not proved from fmt's source: count such statements apart). THE CARD IS WHAT COUNTS. Prove the row's statement (the work); the ties are given (YteokhedljfakkaaDoorTie.lean); close each card by the builder's one call (the guide's Derived/Test/ToyasCard.lean, 'card_holds'). Laid BY PROGRAM, IN A SANDBOX (cutbox-door.mjs). By AI agents, Wed Nov 11 2026. No macro, syntax, notation, axiom, sorry.
-/
import Derived.Test.YteokhedljfakkaaDoorRows
import GoSem.ClaimSeven
namespace Go.Proofs.YteokhedljfakkaaDoor
namespace Rows

/-- THE TIED CARD OF 'sautoirlaw12.EntryRight'. -/
def entryRightCard : Claim7 := { stood := { row := entryRightRow, standIns := [], harness := (true, "ea097fe2469b743f1a729c095ad40ff6a90a1f5214a00ae1ffcd7e2b5f076a58"), looks := true }, kinds := [], alts := [], laidByText := true, laidKinds := [.handle], laidTests := true, laidLooks := .later }
def EntryRightCardSaid : Prop := Claim7.holds Tryd.pinned (.plain (OpenSpec.ofChange entryRightSpec)) entryRightCard

/-- THE TIED CARD OF 'sautoirlaw12.EntryTxn'. -/
def entryTxnCard : Claim7 := { stood := { row := entryTxnRow, standIns := [], harness := (true, "ea097fe2469b743f1a729c095ad40ff6a90a1f5214a00ae1ffcd7e2b5f076a58"), looks := true }, kinds := [], alts := [], laidByText := true, laidKinds := [.handle], laidTests := true, laidLooks := .later }
def EntryTxnCardSaid : Prop := Claim7.holds Tryd.pinned (.plain (OpenSpec.ofChange entryTxnSpec)) entryTxnCard

/-- THE TIED CARD OF 'sautoirlaw12.EntryShards'. -/
def entryShardsCard : Claim7 := { stood := { row := entryShardsRow, standIns := [], harness := (true, "ea097fe2469b743f1a729c095ad40ff6a90a1f5214a00ae1ffcd7e2b5f076a58"), looks := true }, kinds := [], alts := [], laidByText := true, laidKinds := [.handle], laidTests := true, laidLooks := .later }
def EntryShardsCardSaid : Prop := Claim7.holds Tryd.pinned (.plain (OpenSpec.ofChange entryShardsSpec)) entryShardsCard

/-- THE SECOND FORM's CARD OF 'sautoirlaw12.EntryRight'. -/
def entryRightUptoCard : Claim7 := { stood := { row := entryRightUptoRow, standIns := [], harness := (true, "ea097fe2469b743f1a729c095ad40ff6a90a1f5214a00ae1ffcd7e2b5f076a58"), looks := true }, kinds := [], alts := [], laidByText := true, laidKinds := [.handle], laidTests := true, laidLooks := .later }
def EntryRightUptoCardSaid : Prop := Claim7.holds Tryd.pinned (.plain (OpenSpec.upto entryRightSpec)) entryRightUptoCard

/-- THE SECOND FORM's CARD OF 'sautoirlaw12.EntryTxn'. -/
def entryTxnUptoCard : Claim7 := { stood := { row := entryTxnUptoRow, standIns := [], harness := (true, "ea097fe2469b743f1a729c095ad40ff6a90a1f5214a00ae1ffcd7e2b5f076a58"), looks := true }, kinds := [], alts := [], laidByText := true, laidKinds := [.handle], laidTests := true, laidLooks := .later }
def EntryTxnUptoCardSaid : Prop := Claim7.holds Tryd.pinned (.plain (OpenSpec.upto entryTxnSpec)) entryTxnUptoCard

/-- THE SECOND FORM's CARD OF 'sautoirlaw12.EntryShards'. -/
def entryShardsUptoCard : Claim7 := { stood := { row := entryShardsUptoRow, standIns := [], harness := (true, "ea097fe2469b743f1a729c095ad40ff6a90a1f5214a00ae1ffcd7e2b5f076a58"), looks := true }, kinds := [], alts := [], laidByText := true, laidKinds := [.handle], laidTests := true, laidLooks := .later }
def EntryShardsUptoCardSaid : Prop := Claim7.holds Tryd.pinned (.plain (OpenSpec.upto entryShardsSpec)) entryShardsUptoCard
end Rows
end Go.Proofs.YteokhedljfakkaaDoor
