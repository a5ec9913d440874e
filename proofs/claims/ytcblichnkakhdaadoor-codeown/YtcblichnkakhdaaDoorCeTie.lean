import Derived.Test.YtcblichnkakhdaaDoorCeOpg
import Derived.Test.YtcblichnkakhdaaDoorTie
import Derived.Lib.AppendIntMem
import Derived.Lib.LaidTab
import Derived.Lib.SpaceR
import Derived.Lib.Space
import Derived.Deep.DeepWitnessRowRef
import Derived.DeepKeys
import Derived.WalkKit
import Derived.ProofKit
namespace Go.Proofs.YtcblichnkakhdaaDoor.Cd
open Go.RowKit

/-- what the rows of this seat list -/
def laidL : List (String × DataW Unit) := [("math/bits.deBruijn32tab", Rows.laid_math_bits_deBruijn32tab), ("math/bits.deBruijn64tab", Rows.laid_math_bits_deBruijn64tab), ("internal/strconv.uint64pow10", Rows.laid_internal_strconv_uint64pow10), ("unicode.White_Space", Rows.laid_unicode_White_Space), ("strings.asciiSpace", Rows.laid_strings_asciiSpace)]
theorem onlyPow : laidL.filter (fun x => x.1 == "internal/strconv.uint64pow10") = [("internal/strconv.uint64pow10", Lib.tabData .u64 Lib.pow10Tab)] := by kernel_rfl
theorem onlyAsc : laidL.filter (fun x => x.1 == "strings.asciiSpace") = [("strings.asciiSpace", Lib.tabData .u8 Lib.asciiSpaceTab)] := by kernel_rfl
theorem gPow : Tryd.prog.globalNamed "internal/strconv.uint64pow10" = some 2 := by kernel_rfl
theorem gPowT : (Tryd.prog.globals[2]?).map (·.type) = some 139 := by kernel_rfl
theorem gAsc : Tryd.prog.globalNamed "strings.asciiSpace" = some 0 := by kernel_rfl
theorem gAscT : (Tryd.prog.globals[0]?).map (·.type) = some 106 := by kernel_rfl
theorem cellsPow : Tryd.prog.cellsOf 139 = 20 := by kernel_rfl
theorem cellsU64 : Tryd.prog.cellsOf 128 = 1 := by kernel_rfl
theorem cellsAsc : Tryd.prog.cellsOf 106 = 256 := by kernel_rfl
theorem cellsU8 : Tryd.prog.cellsOf 5 = 1 := by kernel_rfl
theorem pow_of {W : World} (h : laidMetH Tryd.prog laidL W) : Lib.TabBelow Tryd.prog W.heap.size W "internal/strconv.uint64pow10" .u64 Lib.pow10Tab := by
  have h1 := h.filter (fun x => x.1 == "internal/strconv.uint64pow10")
  rw [onlyPow] at h1
  exact Lib.tabBelow_of_tabIs (Lib.tabIs_of_head (rest := []) gPow gPowT Tryd.underlying139 Tryd.underlying128 cellsU64 cellsPow h1)
theorem asc_of {W : World} (h : laidMetH Tryd.prog laidL W) : Lib.TabBelow Tryd.prog W.heap.size W "strings.asciiSpace" .u8 Lib.asciiSpaceTab := by
  have h1 := h.filter (fun x => x.1 == "strings.asciiSpace")
  rw [onlyAsc] at h1
  exact Lib.tabBelow_of_tabIs (Lib.tabIs_of_head (rest := []) gAsc gAscT Tryd.underlying106 Tryd.underlying5 cellsU8 cellsAsc h1)
end Go.Proofs.YtcblichnkakhdaaDoor.Cd
