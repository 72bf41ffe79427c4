/-
  'lives' of layer 23 answers true: reckoned by the kernel. No statement.
-/
import Derived.Test.YtlncjakfckdjcaaGreatDoorReH
import Derived.KernelRfl
namespace Go.Proofs.YtlncjakfckdjcaaGreatDoor
open Go Go.Ev
set_option maxRecDepth 1000000
theorem livesRun : isTrue ((evK Tryz.prog [44, 42] (drawS Tryz.prog [44, 42]) 8 60).call (.f 14 [] []) [] hLaid) = true := by kernel_rfl
end Go.Proofs.YtlncjakfckdjcaaGreatDoor
