/-
  The tables of the library that the rows list: the laid condition gives the walks the table of powers of ten; the heap of the program's own start meets it.
-/
import Derived.Test.YtopaglepkpblaaaDoorRows
import Derived.Test.YtopaglepkpblaaaDoorText
import Derived.LaidMore
import Derived.OpenShut
import Derived.OpenVars
import Derived.ChangeOld
import Derived.Lib.SmallJoins
import Derived.Lib.LaidTab
namespace Go.Proofs.YtopaglepkpblaaaDoor
open Go.ChangeShapes Go.WideShapes Go.ChangeAt Go.WideElems Go.RowKit Go.Joins
set_option linter.unusedVariables false
set_option maxRecDepth 100000
abbrev VNS : List String := ["math/bits.deBruijn32tab", "math/bits.deBruijn64tab", "internal/strconv.uint64pow10"]
def laidL : List (String × DataW Unit) := [("math/bits.deBruijn32tab", Rows.laid_math_bits_deBruijn32tab), ("math/bits.deBruijn64tab", Rows.laid_math_bits_deBruijn64tab), ("internal/strconv.uint64pow10", Rows.laid_internal_strconv_uint64pow10)]
theorem door_met (os : Os) (args : Array Value) : laidMetH Tryd.prog laidL ((World.doorLaid Tryd.prog 400 os).forCall (fun _ _ => 0) ⟨#[], args, []⟩).memory :=
  laidMetH_of_parts3 (fuel := 8) (laidMet_of_run' 8 (by kernel_rfl) (by kernel_rfl)) (by kernel_rfl) (by kernel_rfl)
theorem of_laid {W : World} (h : laidMetH Tryd.prog laidL W) : Tb W := by
  rw [MakeChecks.laidMetH_plain _ _ _ (by kernel_rfl)] at h
  obtain ⟨ps, ⟨_, _, _, _, _, _, _, _, _, _, ⟨_, _, _, _, _, _, _, _, _, _, ⟨g, t, cs, f, p, q, hg, ht, hv, hd, _, _⟩, _⟩, _⟩, _, _⟩ := h
  have hq : ((Tryd.prog.globalNamed "internal/strconv.uint64pow10").bind fun g => (Tryd.prog.globals[g]?).map (·.type)) = some 105 := by kernel_rfl
  rw [hg] at hq
  simp only [Option.bind_some] at hq
  rw [ht] at hq
  obtain rfl := Option.some.inj hq
  have hd' : DataW.trod (fun _ => ()) Tryd.prog W 0 (fun _ => true) false f 105 cs.toList = some (Lib.tabData .u64 Lib.pow10Tab, p) := hd
  unfold Tb Lib.TabIs
  rw [hv, ← Lib.cells_of_tab Tryd.underlying105 Tryd.underlying99 (by kernel_rfl) (by kernel_rfl) hd']
end Go.Proofs.YtopaglepkpblaaaDoor
