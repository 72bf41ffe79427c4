/-
  The walk of SealTorn: whatever is asked.
-/
import Derived.Test.YtdinnbmeolojgaaDoorSwta
import Derived.Test.YtdinnbmeolojgaaDoorSwtz
import Derived.Test.YtdinnbmeolojgaaDoorSwto
namespace Go.Proofs.YtdinnbmeolojgaaDoor
open Go.RowKit
set_option linter.unusedVariables false
set_option maxRecDepth 100000

theorem sealTorn_walk (n o m c m2 c2 : Nat) (A A2 : Option Addr) (b b2 : List UInt8) (t : Int) (w : World) (T : Tab w) (hn : n < 18446744073709551616) (ho : o < 18446744073709551616) (hb : Rd w w.heap.size A m b) (hb2 : Rd w w.heap.size A2 m2 b2) (hm : m ≤ 140737488351232) (hm2 : m2 ≤ 140737488351232) :
    Calls Tryd.prog 6 #[.int .u64 n, .int .u64 o, .slice A m c, .slice A2 m2 c2, .int .i64 t] w fun e w' => e = .returned (.bool true) ∧ Below w.heap.size w w' := by
  by_cases h : putE n b = 0
  · by_cases hno : n = o
    · exact sealTorn_same n o m c m2 c2 A A2 b b2 t w T hn ho hb hb2 hm hm2 h hno
    · by_cases h0 : o = 0
      · exact sealTorn_zero n o m c m2 c2 A A2 b b2 t w T hn ho hb hb2 hm hm2 h hno h0
      · by_cases h2 : putE o b2 = 0
        · exact sealTorn_over n o m c m2 c2 A A2 b b2 t w T hn ho hb hb2 hm hm2 h hno (by omega) h2
        · exact sealTorn_refused n o m c m2 c2 A A2 b b2 t w T hn ho hb hb2 hm hm2 h hno (by omega) h2
  · exact sealTorn_no n o m c m2 c2 A A2 b b2 t w T hn ho hb hb2 hm hm2 h
end Go.Proofs.YtdinnbmeolojgaaDoor
