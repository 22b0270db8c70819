/- One call of both spaces, any: a contract. -/
import Derived.Test.YtmahigfamgbhfaaSpS
import Derived.Test.YtmahigfamgbhfaaSpT
import Derived.Test.YtmahigfamgbhfaaSpU
namespace Go.Proofs.Ytmahigfamgbhfaa
open Go.RowKit Go.Maps

theorem step_any (c g bm gr : Nat) (F : ByteArray → List Ver) (L : List LRow) (kind : Int) (key : ByteArray) (p : Int) (val : ByteArray) (gn : Bool) (w : World) (h : St c w g bm gr F L) (hc : c < 999) (hpw : (Lit.int .i64 p).wf = true) (hkey : key.size ≤ maxLen) (hval : val.size ≤ maxLen) :
    Calls Try.prog 29 #[.pointer (some ⟨g, 0, none⟩), .pointer (some ⟨gr, 0, none⟩), sop kind key p val gn] w (Stepped c w g bm gr) := by
  rcases Nat.lt_or_ge 40 key.size with h1 | h1
  · rcases Nat.lt_or_ge 70 val.size with h2 | h2
    · exact step_ll c g bm gr F L kind key p val gn w h hc hpw hkey h1 hval h2
    · exact step_ls c g bm gr F L kind key p val gn w h hc hpw hkey h1 h2
  · rcases Nat.lt_or_ge 70 val.size with h2 | h2
    · exact step_sl c g bm gr F L kind key p val gn w h hc hpw h1 hval h2
    · exact step_short c g bm gr F L kind key p val gn w h hc hpw h1 h2
end Go.Proofs.Ytmahigfamgbhfaa
