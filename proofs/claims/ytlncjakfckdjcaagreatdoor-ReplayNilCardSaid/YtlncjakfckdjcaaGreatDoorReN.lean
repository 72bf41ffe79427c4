/-
  'ReplayNil' of layer 23, for every number: reckoned by the kernel, its closed call told ahead. No statement.
-/
import Derived.Test.YtlncjakfckdjcaaGreatDoorReH
import Derived.KernelRfl
namespace Go.Proofs.YtlncjakfckdjcaaGreatDoor
open Go Go.Ev
set_option maxRecDepth 1000000
theorem nilRunT (n : Int) : isTrue (lawK Tryz.prog [44, 42] 8 60 14 [0, 1, 2] hLaid (.f 4 [] []) [.i .u64 n, .b true] hLaid) = true := by kernel_rfl
theorem nilRunF (n : Int) : isTrue (lawK Tryz.prog [44, 42] 8 60 14 [0, 1, 2] hLaid (.f 4 [] []) [.i .u64 n, .b false] hLaid) = true := by kernel_rfl
end Go.Proofs.YtlncjakfckdjcaaGreatDoor
