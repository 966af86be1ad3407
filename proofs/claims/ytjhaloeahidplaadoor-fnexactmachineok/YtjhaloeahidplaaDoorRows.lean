/-
  NARROWER THAN 'FOR EVERY INPUT', by the rows' own cells (each row's printed sentence says how): FnMsgTexts: laid · FnAsked: laid · FnStored: laid · FnCoreGot: laid · FnMachineNew: laid · FnExactCoreGot: laid · FnExactMachineOk: laid · FnExactOwnersOf: laid · FnExactSharersOf: laid · FnExactNewestOf: laid · FnExactOneWriter: laid · FnExactQuiet: laid.
  DERIVED. THE GIVEN ROWS OF THIS SEAT. 12 by the template 'for every input the law returns true; each argument reads behind the call as it read before'; 0 by the template 'total and deterministic' (their statements: YtjhaloeahidplaaDoorTotals.lean).
  GIVEN WITH THE SEED: the statements are not yours to turn. If you find one false, say at which input.
  Laid BY PROGRAM, IN A SANDBOX (cutbox-rows.mjs): the forced cells as the released guide's own fill.sh prints them over the translation c9d20ee125d62648… (all of the seat's roots in one cut). By AI agents, Wed Nov 11 2026. No macro, syntax, notation, axiom, sorry.
-/
import Derived.Test.YtjhaloeahidplaaDoorChecked
import GoSem.PinnedTables
import GoSem.Claim
import GoSem.ClaimJoined
import GoSem.ClaimMapViews
import Derived.JoinedTies
import Derived.KernelRfl
namespace Go.Proofs.YtjhaloeahidplaaDoor
/- THE CELL 'sum', in the pinned program and in every row, IS THE sha256 OF THE DUMP (.gsa) THAT YtjhaloeahidplaaDoorProg.lean LOADS. Nothing in Lean hashes anything: it is a label: what it is worth is what the hold of that sum in a sandbox is worth. -/
noncomputable def Tryd.pinned : Pinned := { name := "ytjhaloeahidplaadoor", sum := "c9d20ee125d62648f212c4cd55a1092e6d0462bccf460e782a4677a06127bac7", checked := Tryd.checked }
namespace Rows
def none {H : Type} : Left H := { results := [], args := [] }

/- WHAT THE LISTED PACKAGE-LEVEL VARIABLES READ AS WHEN THE CALL BEGINS. Each datum BY PROGRAM (the guide's laid-datum.mjs) off the statement by which the dump's own 'gosem.cut.vars' lays the variable. In a bare row this is a premise. The card (YtjhaloeahidplaaDoorCards.lean) ties it to the program's text. -/
def laid_math_bits_deBruijn32tab {H : Type} : DataW H := .agg [.lit (.int .u8 0), .lit (.int .u8 1), .lit (.int .u8 28), .lit (.int .u8 2), .lit (.int .u8 29), .lit (.int .u8 14), .lit (.int .u8 24), .lit (.int .u8 3), .lit (.int .u8 30), .lit (.int .u8 22), .lit (.int .u8 20), .lit (.int .u8 15), .lit (.int .u8 25), .lit (.int .u8 17), .lit (.int .u8 4), .lit (.int .u8 8), .lit (.int .u8 31), .lit (.int .u8 27), .lit (.int .u8 13), .lit (.int .u8 23), .lit (.int .u8 21), .lit (.int .u8 19), .lit (.int .u8 16), .lit (.int .u8 7), .lit (.int .u8 26), .lit (.int .u8 12), .lit (.int .u8 18), .lit (.int .u8 6), .lit (.int .u8 11), .lit (.int .u8 5), .lit (.int .u8 10), .lit (.int .u8 9)]
def laid_math_bits_deBruijn64tab {H : Type} : DataW H := .agg [.lit (.int .u8 0), .lit (.int .u8 1), .lit (.int .u8 56), .lit (.int .u8 2), .lit (.int .u8 57), .lit (.int .u8 49), .lit (.int .u8 28), .lit (.int .u8 3), .lit (.int .u8 61), .lit (.int .u8 58), .lit (.int .u8 42), .lit (.int .u8 50), .lit (.int .u8 38), .lit (.int .u8 29), .lit (.int .u8 17), .lit (.int .u8 4), .lit (.int .u8 62), .lit (.int .u8 47), .lit (.int .u8 59), .lit (.int .u8 36), .lit (.int .u8 45), .lit (.int .u8 43), .lit (.int .u8 51), .lit (.int .u8 22), .lit (.int .u8 53), .lit (.int .u8 39), .lit (.int .u8 33), .lit (.int .u8 30), .lit (.int .u8 24), .lit (.int .u8 18), .lit (.int .u8 12), .lit (.int .u8 5), .lit (.int .u8 63), .lit (.int .u8 55), .lit (.int .u8 48), .lit (.int .u8 27), .lit (.int .u8 60), .lit (.int .u8 41), .lit (.int .u8 37), .lit (.int .u8 16), .lit (.int .u8 46), .lit (.int .u8 35), .lit (.int .u8 44), .lit (.int .u8 21), .lit (.int .u8 52), .lit (.int .u8 32), .lit (.int .u8 23), .lit (.int .u8 11), .lit (.int .u8 54), .lit (.int .u8 26), .lit (.int .u8 40), .lit (.int .u8 15), .lit (.int .u8 34), .lit (.int .u8 20), .lit (.int .u8 31), .lit (.int .u8 10), .lit (.int .u8 25), .lit (.int .u8 14), .lit (.int .u8 19), .lit (.int .u8 9), .lit (.int .u8 13), .lit (.int .u8 8), .lit (.int .u8 7), .lit (.int .u8 6)]
def laid_internal_strconv_uint64pow10 {H : Type} : DataW H := .agg [.lit (.int .u64 1), .lit (.int .u64 10), .lit (.int .u64 100), .lit (.int .u64 1000), .lit (.int .u64 10000), .lit (.int .u64 100000), .lit (.int .u64 1000000), .lit (.int .u64 10000000), .lit (.int .u64 100000000), .lit (.int .u64 1000000000), .lit (.int .u64 10000000000), .lit (.int .u64 100000000000), .lit (.int .u64 1000000000000), .lit (.int .u64 10000000000000), .lit (.int .u64 100000000000000), .lit (.int .u64 1000000000000000), .lit (.int .u64 10000000000000000), .lit (.int .u64 100000000000000000), .lit (.int .u64 1000000000000000000), .lit (.int .u64 10000000000000000000)]
def laid_unicode_utf8_acceptRanges {H : Type} : DataW H := .agg [.agg [.lit (.int .u8 128), .lit (.int .u8 191)], .agg [.lit (.int .u8 160), .lit (.int .u8 191)], .agg [.lit (.int .u8 128), .lit (.int .u8 159)], .agg [.lit (.int .u8 144), .lit (.int .u8 191)], .agg [.lit (.int .u8 128), .lit (.int .u8 143)], .agg [.lit (.int .u8 0), .lit (.int .u8 0)], .agg [.lit (.int .u8 0), .lit (.int .u8 0)], .agg [.lit (.int .u8 0), .lit (.int .u8 0)], .agg [.lit (.int .u8 0), .lit (.int .u8 0)], .agg [.lit (.int .u8 0), .lit (.int .u8 0)], .agg [.lit (.int .u8 0), .lit (.int .u8 0)], .agg [.lit (.int .u8 0), .lit (.int .u8 0)], .agg [.lit (.int .u8 0), .lit (.int .u8 0)], .agg [.lit (.int .u8 0), .lit (.int .u8 0)], .agg [.lit (.int .u8 0), .lit (.int .u8 0)], .agg [.lit (.int .u8 0), .lit (.int .u8 0)]]
def laid_loop_example_g00384_impl_msgShapes {H : Type} : DataW H := .agg [.agg [.lit (.string []), .lit (.bool false), .lit (.bool false), .lit (.bool false)], .agg [.lit (.string [114, 101, 97, 100]), .lit (.bool true), .lit (.bool false), .lit (.bool false)], .agg [.lit (.string [119, 114, 105, 116, 101]), .lit (.bool true), .lit (.bool false), .lit (.bool false)], .agg [.lit (.string [112, 117, 116]), .lit (.bool true), .lit (.bool false), .lit (.bool true)], .agg [.lit (.string [105, 110, 118]), .lit (.bool false), .lit (.bool false), .lit (.bool false)], .agg [.lit (.string [102, 101, 116, 99, 104]), .lit (.bool false), .lit (.bool true), .lit (.bool false)], .agg [.lit (.string [97, 99, 107]), .lit (.bool true), .lit (.bool false), .lit (.bool false)], .agg [.lit (.string [100, 97, 116, 97]), .lit (.bool true), .lit (.bool false), .lit (.bool true)], .agg [.lit (.string [103, 114, 97, 110, 116]), .lit (.bool false), .lit (.bool true), .lit (.bool true)], .agg [.lit (.string [100, 111, 110, 101]), .lit (.bool false), .lit (.bool false), .lit (.bool false)]]
/-- One of Go's own tables, pinned by name: the form's constant. -/
def laid_unicode_utf8_first : DataW Unit := Go.Pinned.utf8First

/-- 'laws.FnMsgTexts': WHATEVER THE INPUT: true; the input reads as it did. -/
def fnMsgTextsSpec : ChangeSpec := { name := "fnMsgTexts", vars := ["loop.example/g00384/impl.msgShapes"], fn := fun _ => fun
  | [d, g1] => { results := [.lit (.bool true)], args := [d], vars := [g1] }
  | _ => none }
def fnMsgTextsRow : OpenClaim := { program := "ytjhaloeahidplaadoor", sum := "c9d20ee125d62648f212c4cd55a1092e6d0462bccf460e782a4677a06127bac7", func := "loop.example/g00384/laws.FnMsgTexts", spec := "fnMsgTexts", inPlace := ["internal/abi.NoEscape", "internal/bytealg.MakeNoZero", "internal/bytealg.CountString", "internal/bytealg.IndexByteString", "internal/bytealg.IndexString"], unfollowed := true, recurses := true, named := ["loop.example/g00384/impl.msgShapes", "internal/strconv.uint64pow10", "math/bits.deBruijn32tab", "math/bits.deBruijn64tab", "unicode/utf8.first", "unicode/utf8.acceptRanges", "internal/bytealg.MaxLen"], apart := false, laid := [("math/bits.deBruijn32tab", laid_math_bits_deBruijn32tab), ("math/bits.deBruijn64tab", laid_math_bits_deBruijn64tab), ("internal/strconv.uint64pow10", laid_internal_strconv_uint64pow10), ("unicode/utf8.acceptRanges", laid_unicode_utf8_acceptRanges), ("loop.example/g00384/impl.msgShapes", laid_loop_example_g00384_impl_msgShapes), ("unicode/utf8.first", laid_unicode_utf8_first)] }
def FnMsgTextsSaid : Prop := fnMsgTextsRow.holds Tryd.pinned (OpenSpec.ofChange fnMsgTextsSpec)

/-- ITS FALSE NEIGHBOUR: 'it returns false'. Refute it at one input. -/
def fnMsgTextsWrong : ChangeSpec := { name := "fnMsgTexts", vars := ["loop.example/g00384/impl.msgShapes"], fn := fun _ => fun
  | [d, g1] => { results := [.lit (.bool false)], args := [d], vars := [g1] }
  | _ => none }
def FnMsgTextsWrongFalsely : Prop := fnMsgTextsRow.holds Tryd.pinned (OpenSpec.ofChange fnMsgTextsWrong)

/-- 'laws.FnAsked': WHATEVER THE INPUT: true; the input reads as it did. -/
def fnAskedSpec : ChangeSpec := { name := "fnAsked", vars := ["loop.example/g00384/impl.msgShapes"], fn := fun _ => fun
  | [d, g1] => { results := [.lit (.bool true)], args := [d], vars := [g1] }
  | _ => none }
def fnAskedRow : OpenClaim := { program := "ytjhaloeahidplaadoor", sum := "c9d20ee125d62648f212c4cd55a1092e6d0462bccf460e782a4677a06127bac7", func := "loop.example/g00384/laws.FnAsked", spec := "fnAsked", unfollowed := true, recurses := true, named := ["loop.example/g00384/impl.msgShapes"], apart := false, laid := [("loop.example/g00384/impl.msgShapes", laid_loop_example_g00384_impl_msgShapes)] }
def FnAskedSaid : Prop := fnAskedRow.holds Tryd.pinned (OpenSpec.ofChange fnAskedSpec)

/-- ITS FALSE NEIGHBOUR: 'it returns false'. Refute it at one input. -/
def fnAskedWrong : ChangeSpec := { name := "fnAsked", vars := ["loop.example/g00384/impl.msgShapes"], fn := fun _ => fun
  | [d, g1] => { results := [.lit (.bool false)], args := [d], vars := [g1] }
  | _ => none }
def FnAskedWrongFalsely : Prop := fnAskedRow.holds Tryd.pinned (OpenSpec.ofChange fnAskedWrong)

/-- 'laws.FnStored': WHATEVER THE INPUT: true; the input reads as it did. -/
def fnStoredSpec : ChangeSpec := { name := "fnStored", vars := ["loop.example/g00384/impl.msgShapes"], fn := fun _ => fun
  | [d, g1] => { results := [.lit (.bool true)], args := [d], vars := [g1] }
  | _ => none }
def fnStoredRow : OpenClaim := { program := "ytjhaloeahidplaadoor", sum := "c9d20ee125d62648f212c4cd55a1092e6d0462bccf460e782a4677a06127bac7", func := "loop.example/g00384/laws.FnStored", spec := "fnStored", unfollowed := true, recurses := true, named := ["loop.example/g00384/impl.msgShapes"], apart := false, laid := [("loop.example/g00384/impl.msgShapes", laid_loop_example_g00384_impl_msgShapes)] }
def FnStoredSaid : Prop := fnStoredRow.holds Tryd.pinned (OpenSpec.ofChange fnStoredSpec)

/-- ITS FALSE NEIGHBOUR: 'it returns false'. Refute it at one input. -/
def fnStoredWrong : ChangeSpec := { name := "fnStored", vars := ["loop.example/g00384/impl.msgShapes"], fn := fun _ => fun
  | [d, g1] => { results := [.lit (.bool false)], args := [d], vars := [g1] }
  | _ => none }
def FnStoredWrongFalsely : Prop := fnStoredRow.holds Tryd.pinned (OpenSpec.ofChange fnStoredWrong)

/-- 'laws.FnCoreGot': WHATEVER THE INPUT: true; the input reads as it did. -/
def fnCoreGotSpec : ChangeSpec := { name := "fnCoreGot", vars := ["loop.example/g00384/impl.msgShapes"], fn := fun _ => fun
  | [d, g1] => { results := [.lit (.bool true)], args := [d], vars := [g1] }
  | _ => none }
def fnCoreGotRow : OpenClaim := { program := "ytjhaloeahidplaadoor", sum := "c9d20ee125d62648f212c4cd55a1092e6d0462bccf460e782a4677a06127bac7", func := "loop.example/g00384/laws.FnCoreGot", spec := "fnCoreGot", unfollowed := true, recurses := true, named := ["loop.example/g00384/impl.msgShapes"], apart := false, laid := [("loop.example/g00384/impl.msgShapes", laid_loop_example_g00384_impl_msgShapes)] }
def FnCoreGotSaid : Prop := fnCoreGotRow.holds Tryd.pinned (OpenSpec.ofChange fnCoreGotSpec)

/-- ITS FALSE NEIGHBOUR: 'it returns false'. Refute it at one input. -/
def fnCoreGotWrong : ChangeSpec := { name := "fnCoreGot", vars := ["loop.example/g00384/impl.msgShapes"], fn := fun _ => fun
  | [d, g1] => { results := [.lit (.bool false)], args := [d], vars := [g1] }
  | _ => none }
def FnCoreGotWrongFalsely : Prop := fnCoreGotRow.holds Tryd.pinned (OpenSpec.ofChange fnCoreGotWrong)

/-- 'laws.FnMachineNew': WHATEVER THE INPUT: true; the input reads as it did. -/
def fnMachineNewSpec : ChangeSpec := { name := "fnMachineNew", vars := ["loop.example/g00384/impl.msgShapes"], fn := fun _ => fun
  | [d, g1] => { results := [.lit (.bool true)], args := [d], vars := [g1] }
  | _ => none }
def fnMachineNewRow : OpenClaim := { program := "ytjhaloeahidplaadoor", sum := "c9d20ee125d62648f212c4cd55a1092e6d0462bccf460e782a4677a06127bac7", func := "loop.example/g00384/laws.FnMachineNew", spec := "fnMachineNew", unfollowed := true, recurses := true, named := ["loop.example/g00384/impl.msgShapes"], apart := false, laid := [("loop.example/g00384/impl.msgShapes", laid_loop_example_g00384_impl_msgShapes)] }
def FnMachineNewSaid : Prop := fnMachineNewRow.holds Tryd.pinned (OpenSpec.ofChange fnMachineNewSpec)

/-- ITS FALSE NEIGHBOUR: 'it returns false'. Refute it at one input. -/
def fnMachineNewWrong : ChangeSpec := { name := "fnMachineNew", vars := ["loop.example/g00384/impl.msgShapes"], fn := fun _ => fun
  | [d, g1] => { results := [.lit (.bool false)], args := [d], vars := [g1] }
  | _ => none }
def FnMachineNewWrongFalsely : Prop := fnMachineNewRow.holds Tryd.pinned (OpenSpec.ofChange fnMachineNewWrong)

/-- 'laws.FnExactCoreGot': WHATEVER THE INPUT: true; the input reads as it did. -/
def fnExactCoreGotSpec : ChangeSpec := { name := "fnExactCoreGot", vars := ["loop.example/g00384/impl.msgShapes"], fn := fun _ => fun
  | [d1, d2, g1] => { results := [.lit (.bool true)], args := [d1, d2], vars := [g1] }
  | _ => none }
def fnExactCoreGotRow : OpenClaim := { program := "ytjhaloeahidplaadoor", sum := "c9d20ee125d62648f212c4cd55a1092e6d0462bccf460e782a4677a06127bac7", func := "loop.example/g00384/laws.FnExactCoreGot", spec := "fnExactCoreGot", unfollowed := true, recurses := true, named := ["loop.example/g00384/impl.msgShapes"], apart := false, laid := [("loop.example/g00384/impl.msgShapes", laid_loop_example_g00384_impl_msgShapes)] }
def FnExactCoreGotSaid : Prop := fnExactCoreGotRow.holds Tryd.pinned (OpenSpec.ofChange fnExactCoreGotSpec)

/-- ITS FALSE NEIGHBOUR: 'it returns false'. Refute it at one input. -/
def fnExactCoreGotWrong : ChangeSpec := { name := "fnExactCoreGot", vars := ["loop.example/g00384/impl.msgShapes"], fn := fun _ => fun
  | [d1, d2, g1] => { results := [.lit (.bool false)], args := [d1, d2], vars := [g1] }
  | _ => none }
def FnExactCoreGotWrongFalsely : Prop := fnExactCoreGotRow.holds Tryd.pinned (OpenSpec.ofChange fnExactCoreGotWrong)

/-- 'laws.FnExactMachineOk': WHATEVER THE INPUT: true; the input reads as it did. -/
def fnExactMachineOkSpec : ChangeSpec := { name := "fnExactMachineOk", vars := ["loop.example/g00384/impl.msgShapes"], fn := fun _ => fun
  | [d, g1] => { results := [.lit (.bool true)], args := [d], vars := [g1] }
  | _ => none }
def fnExactMachineOkRow : OpenClaim := { program := "ytjhaloeahidplaadoor", sum := "c9d20ee125d62648f212c4cd55a1092e6d0462bccf460e782a4677a06127bac7", func := "loop.example/g00384/laws.FnExactMachineOk", spec := "fnExactMachineOk", named := ["loop.example/g00384/impl.msgShapes"], apart := false, laid := [("loop.example/g00384/impl.msgShapes", laid_loop_example_g00384_impl_msgShapes)] }
def FnExactMachineOkSaid : Prop := fnExactMachineOkRow.holds Tryd.pinned (OpenSpec.ofChange fnExactMachineOkSpec)

/-- ITS FALSE NEIGHBOUR: 'it returns false'. Refute it at one input. -/
def fnExactMachineOkWrong : ChangeSpec := { name := "fnExactMachineOk", vars := ["loop.example/g00384/impl.msgShapes"], fn := fun _ => fun
  | [d, g1] => { results := [.lit (.bool false)], args := [d], vars := [g1] }
  | _ => none }
def FnExactMachineOkWrongFalsely : Prop := fnExactMachineOkRow.holds Tryd.pinned (OpenSpec.ofChange fnExactMachineOkWrong)

/-- 'laws.FnExactOwnersOf': WHATEVER THE INPUT: true; the input reads as it did. -/
def fnExactOwnersOfSpec : ChangeSpec := { name := "fnExactOwnersOf", vars := ["loop.example/g00384/impl.msgShapes"], fn := fun _ => fun
  | [d1, d2, g1] => { results := [.lit (.bool true)], args := [d1, d2], vars := [g1] }
  | _ => none }
def fnExactOwnersOfRow : OpenClaim := { program := "ytjhaloeahidplaadoor", sum := "c9d20ee125d62648f212c4cd55a1092e6d0462bccf460e782a4677a06127bac7", func := "loop.example/g00384/laws.FnExactOwnersOf", spec := "fnExactOwnersOf", unfollowed := true, recurses := true, named := ["loop.example/g00384/impl.msgShapes"], apart := false, laid := [("loop.example/g00384/impl.msgShapes", laid_loop_example_g00384_impl_msgShapes)] }
def FnExactOwnersOfSaid : Prop := fnExactOwnersOfRow.holds Tryd.pinned (OpenSpec.ofChange fnExactOwnersOfSpec)

/-- ITS FALSE NEIGHBOUR: 'it returns false'. Refute it at one input. -/
def fnExactOwnersOfWrong : ChangeSpec := { name := "fnExactOwnersOf", vars := ["loop.example/g00384/impl.msgShapes"], fn := fun _ => fun
  | [d1, d2, g1] => { results := [.lit (.bool false)], args := [d1, d2], vars := [g1] }
  | _ => none }
def FnExactOwnersOfWrongFalsely : Prop := fnExactOwnersOfRow.holds Tryd.pinned (OpenSpec.ofChange fnExactOwnersOfWrong)

/-- 'laws.FnExactSharersOf': WHATEVER THE INPUT: true; the input reads as it did. -/
def fnExactSharersOfSpec : ChangeSpec := { name := "fnExactSharersOf", vars := ["loop.example/g00384/impl.msgShapes"], fn := fun _ => fun
  | [d1, d2, g1] => { results := [.lit (.bool true)], args := [d1, d2], vars := [g1] }
  | _ => none }
def fnExactSharersOfRow : OpenClaim := { program := "ytjhaloeahidplaadoor", sum := "c9d20ee125d62648f212c4cd55a1092e6d0462bccf460e782a4677a06127bac7", func := "loop.example/g00384/laws.FnExactSharersOf", spec := "fnExactSharersOf", unfollowed := true, recurses := true, named := ["loop.example/g00384/impl.msgShapes"], apart := false, laid := [("loop.example/g00384/impl.msgShapes", laid_loop_example_g00384_impl_msgShapes)] }
def FnExactSharersOfSaid : Prop := fnExactSharersOfRow.holds Tryd.pinned (OpenSpec.ofChange fnExactSharersOfSpec)

/-- ITS FALSE NEIGHBOUR: 'it returns false'. Refute it at one input. -/
def fnExactSharersOfWrong : ChangeSpec := { name := "fnExactSharersOf", vars := ["loop.example/g00384/impl.msgShapes"], fn := fun _ => fun
  | [d1, d2, g1] => { results := [.lit (.bool false)], args := [d1, d2], vars := [g1] }
  | _ => none }
def FnExactSharersOfWrongFalsely : Prop := fnExactSharersOfRow.holds Tryd.pinned (OpenSpec.ofChange fnExactSharersOfWrong)

/-- 'laws.FnExactNewestOf': WHATEVER THE INPUT: true; the input reads as it did. -/
def fnExactNewestOfSpec : ChangeSpec := { name := "fnExactNewestOf", vars := ["loop.example/g00384/impl.msgShapes"], fn := fun _ => fun
  | [d1, d2, g1] => { results := [.lit (.bool true)], args := [d1, d2], vars := [g1] }
  | _ => none }
def fnExactNewestOfRow : OpenClaim := { program := "ytjhaloeahidplaadoor", sum := "c9d20ee125d62648f212c4cd55a1092e6d0462bccf460e782a4677a06127bac7", func := "loop.example/g00384/laws.FnExactNewestOf", spec := "fnExactNewestOf", unfollowed := true, recurses := true, named := ["loop.example/g00384/impl.msgShapes"], apart := false, laid := [("loop.example/g00384/impl.msgShapes", laid_loop_example_g00384_impl_msgShapes)] }
def FnExactNewestOfSaid : Prop := fnExactNewestOfRow.holds Tryd.pinned (OpenSpec.ofChange fnExactNewestOfSpec)

/-- ITS FALSE NEIGHBOUR: 'it returns false'. Refute it at one input. -/
def fnExactNewestOfWrong : ChangeSpec := { name := "fnExactNewestOf", vars := ["loop.example/g00384/impl.msgShapes"], fn := fun _ => fun
  | [d1, d2, g1] => { results := [.lit (.bool false)], args := [d1, d2], vars := [g1] }
  | _ => none }
def FnExactNewestOfWrongFalsely : Prop := fnExactNewestOfRow.holds Tryd.pinned (OpenSpec.ofChange fnExactNewestOfWrong)

/-- 'laws.FnExactOneWriter': WHATEVER THE INPUT: true; the input reads as it did. -/
def fnExactOneWriterSpec : ChangeSpec := { name := "fnExactOneWriter", vars := ["loop.example/g00384/impl.msgShapes"], fn := fun _ => fun
  | [d, g1] => { results := [.lit (.bool true)], args := [d], vars := [g1] }
  | _ => none }
def fnExactOneWriterRow : OpenClaim := { program := "ytjhaloeahidplaadoor", sum := "c9d20ee125d62648f212c4cd55a1092e6d0462bccf460e782a4677a06127bac7", func := "loop.example/g00384/laws.FnExactOneWriter", spec := "fnExactOneWriter", unfollowed := true, recurses := true, named := ["loop.example/g00384/impl.msgShapes"], apart := false, laid := [("loop.example/g00384/impl.msgShapes", laid_loop_example_g00384_impl_msgShapes)] }
def FnExactOneWriterSaid : Prop := fnExactOneWriterRow.holds Tryd.pinned (OpenSpec.ofChange fnExactOneWriterSpec)

/-- ITS FALSE NEIGHBOUR: 'it returns false'. Refute it at one input. -/
def fnExactOneWriterWrong : ChangeSpec := { name := "fnExactOneWriter", vars := ["loop.example/g00384/impl.msgShapes"], fn := fun _ => fun
  | [d, g1] => { results := [.lit (.bool false)], args := [d], vars := [g1] }
  | _ => none }
def FnExactOneWriterWrongFalsely : Prop := fnExactOneWriterRow.holds Tryd.pinned (OpenSpec.ofChange fnExactOneWriterWrong)

/-- 'laws.FnExactQuiet': WHATEVER THE INPUT: true; the input reads as it did. -/
def fnExactQuietSpec : ChangeSpec := { name := "fnExactQuiet", vars := ["loop.example/g00384/impl.msgShapes"], fn := fun _ => fun
  | [d, g1] => { results := [.lit (.bool true)], args := [d], vars := [g1] }
  | _ => none }
def fnExactQuietRow : OpenClaim := { program := "ytjhaloeahidplaadoor", sum := "c9d20ee125d62648f212c4cd55a1092e6d0462bccf460e782a4677a06127bac7", func := "loop.example/g00384/laws.FnExactQuiet", spec := "fnExactQuiet", unfollowed := true, recurses := true, named := ["loop.example/g00384/impl.msgShapes"], apart := false, laid := [("loop.example/g00384/impl.msgShapes", laid_loop_example_g00384_impl_msgShapes)] }
def FnExactQuietSaid : Prop := fnExactQuietRow.holds Tryd.pinned (OpenSpec.ofChange fnExactQuietSpec)

/-- ITS FALSE NEIGHBOUR: 'it returns false'. Refute it at one input. -/
def fnExactQuietWrong : ChangeSpec := { name := "fnExactQuiet", vars := ["loop.example/g00384/impl.msgShapes"], fn := fun _ => fun
  | [d, g1] => { results := [.lit (.bool false)], args := [d], vars := [g1] }
  | _ => none }
def FnExactQuietWrongFalsely : Prop := fnExactQuietRow.holds Tryd.pinned (OpenSpec.ofChange fnExactQuietWrong)

/- THE SECOND FORM. 'bulk': how many values and letters a reading holds, each counted each time it is reached (what is shared counts as often as it is met; a slice's spare places count too). A statement '..UptoSaid' is the law's where the arguments, and the package variables that the reading takes, are together of bulk at most 1048576: NARROWER than '..Said'. Prove '..Said' where nothing that the law and all that it calls make is longer than what came in: it says more and counts as full. Else prove '..UptoSaid'. A law counts once. -/
mutual
def uptoBulk {H : Type} : DataW H → Nat
  | .lit (.string bytes) => bytes.length + 1
  | .lit _ => 1
  | .nil => 1
  | .ptr d => uptoBulk d + 1
  | .slice elems spare => uptoBulkAll elems + uptoBulkAll spare + 1
  | .agg parts => uptoBulkAll parts + 1
  | .iface _ d => uptoBulk d + 1
  | .map entries => uptoBulkEntries entries + 1
  | .held _ => 1
def uptoBulkAll {H : Type} : List (DataW H) → Nat
  | [] => 0
  | d :: r => uptoBulk d + uptoBulkAll r
def uptoBulkEntries {H : Type} : List (Lit × DataW H) → Nat
  | [] => 0
  | x :: r => uptoBulkEntry x + uptoBulkEntries r
def uptoBulkEntry {H : Type} : Lit × DataW H → Nat
  | (.string bytes, d) => bytes.length + uptoBulk d + 1
  | (_, d) => uptoBulk d + 1
 end
def uptoSmall : (H : Type) → List (DataW H) → Bool := fun _ ds => decide (uptoBulkAll ds ≤ 1048576)
def OpenSpec.upto (s : _root_.Go.ChangeSpec) : _root_.Go.OpenSpec := { _root_.Go.OpenSpec.ofChange s with cond := some uptoSmall }

/-- 'laws.FnMsgTexts', WHERE WHAT IT READS IS OF BULK AT MOST 1048576: true; the input reads as it did. -/
def fnMsgTextsUptoRow : OpenClaim := { program := "ytjhaloeahidplaadoor", sum := "c9d20ee125d62648f212c4cd55a1092e6d0462bccf460e782a4677a06127bac7", func := "loop.example/g00384/laws.FnMsgTexts", spec := "fnMsgTexts", inPlace := ["internal/abi.NoEscape", "internal/bytealg.MakeNoZero", "internal/bytealg.CountString", "internal/bytealg.IndexByteString", "internal/bytealg.IndexString"], unfollowed := true, recurses := true, named := ["loop.example/g00384/impl.msgShapes", "internal/strconv.uint64pow10", "math/bits.deBruijn32tab", "math/bits.deBruijn64tab", "unicode/utf8.first", "unicode/utf8.acceptRanges", "internal/bytealg.MaxLen"], apart := false, laid := [("math/bits.deBruijn32tab", laid_math_bits_deBruijn32tab), ("math/bits.deBruijn64tab", laid_math_bits_deBruijn64tab), ("internal/strconv.uint64pow10", laid_internal_strconv_uint64pow10), ("unicode/utf8.acceptRanges", laid_unicode_utf8_acceptRanges), ("loop.example/g00384/impl.msgShapes", laid_loop_example_g00384_impl_msgShapes), ("unicode/utf8.first", laid_unicode_utf8_first)], narrowed := true }
def FnMsgTextsUptoSaid : Prop := fnMsgTextsUptoRow.holds Tryd.pinned (OpenSpec.upto fnMsgTextsSpec)

/-- 'laws.FnAsked', WHERE WHAT IT READS IS OF BULK AT MOST 1048576: true; the input reads as it did. -/
def fnAskedUptoRow : OpenClaim := { program := "ytjhaloeahidplaadoor", sum := "c9d20ee125d62648f212c4cd55a1092e6d0462bccf460e782a4677a06127bac7", func := "loop.example/g00384/laws.FnAsked", spec := "fnAsked", unfollowed := true, recurses := true, named := ["loop.example/g00384/impl.msgShapes"], apart := false, laid := [("loop.example/g00384/impl.msgShapes", laid_loop_example_g00384_impl_msgShapes)], narrowed := true }
def FnAskedUptoSaid : Prop := fnAskedUptoRow.holds Tryd.pinned (OpenSpec.upto fnAskedSpec)

/-- 'laws.FnStored', WHERE WHAT IT READS IS OF BULK AT MOST 1048576: true; the input reads as it did. -/
def fnStoredUptoRow : OpenClaim := { program := "ytjhaloeahidplaadoor", sum := "c9d20ee125d62648f212c4cd55a1092e6d0462bccf460e782a4677a06127bac7", func := "loop.example/g00384/laws.FnStored", spec := "fnStored", unfollowed := true, recurses := true, named := ["loop.example/g00384/impl.msgShapes"], apart := false, laid := [("loop.example/g00384/impl.msgShapes", laid_loop_example_g00384_impl_msgShapes)], narrowed := true }
def FnStoredUptoSaid : Prop := fnStoredUptoRow.holds Tryd.pinned (OpenSpec.upto fnStoredSpec)

/-- 'laws.FnCoreGot', WHERE WHAT IT READS IS OF BULK AT MOST 1048576: true; the input reads as it did. -/
def fnCoreGotUptoRow : OpenClaim := { program := "ytjhaloeahidplaadoor", sum := "c9d20ee125d62648f212c4cd55a1092e6d0462bccf460e782a4677a06127bac7", func := "loop.example/g00384/laws.FnCoreGot", spec := "fnCoreGot", unfollowed := true, recurses := true, named := ["loop.example/g00384/impl.msgShapes"], apart := false, laid := [("loop.example/g00384/impl.msgShapes", laid_loop_example_g00384_impl_msgShapes)], narrowed := true }
def FnCoreGotUptoSaid : Prop := fnCoreGotUptoRow.holds Tryd.pinned (OpenSpec.upto fnCoreGotSpec)

/-- 'laws.FnMachineNew', WHERE WHAT IT READS IS OF BULK AT MOST 1048576: true; the input reads as it did. -/
def fnMachineNewUptoRow : OpenClaim := { program := "ytjhaloeahidplaadoor", sum := "c9d20ee125d62648f212c4cd55a1092e6d0462bccf460e782a4677a06127bac7", func := "loop.example/g00384/laws.FnMachineNew", spec := "fnMachineNew", unfollowed := true, recurses := true, named := ["loop.example/g00384/impl.msgShapes"], apart := false, laid := [("loop.example/g00384/impl.msgShapes", laid_loop_example_g00384_impl_msgShapes)], narrowed := true }
def FnMachineNewUptoSaid : Prop := fnMachineNewUptoRow.holds Tryd.pinned (OpenSpec.upto fnMachineNewSpec)

/-- 'laws.FnExactCoreGot', WHERE WHAT IT READS IS OF BULK AT MOST 1048576: true; the input reads as it did. -/
def fnExactCoreGotUptoRow : OpenClaim := { program := "ytjhaloeahidplaadoor", sum := "c9d20ee125d62648f212c4cd55a1092e6d0462bccf460e782a4677a06127bac7", func := "loop.example/g00384/laws.FnExactCoreGot", spec := "fnExactCoreGot", unfollowed := true, recurses := true, named := ["loop.example/g00384/impl.msgShapes"], apart := false, laid := [("loop.example/g00384/impl.msgShapes", laid_loop_example_g00384_impl_msgShapes)], narrowed := true }
def FnExactCoreGotUptoSaid : Prop := fnExactCoreGotUptoRow.holds Tryd.pinned (OpenSpec.upto fnExactCoreGotSpec)

/-- 'laws.FnExactMachineOk', WHERE WHAT IT READS IS OF BULK AT MOST 1048576: true; the input reads as it did. -/
def fnExactMachineOkUptoRow : OpenClaim := { program := "ytjhaloeahidplaadoor", sum := "c9d20ee125d62648f212c4cd55a1092e6d0462bccf460e782a4677a06127bac7", func := "loop.example/g00384/laws.FnExactMachineOk", spec := "fnExactMachineOk", named := ["loop.example/g00384/impl.msgShapes"], apart := false, laid := [("loop.example/g00384/impl.msgShapes", laid_loop_example_g00384_impl_msgShapes)], narrowed := true }
def FnExactMachineOkUptoSaid : Prop := fnExactMachineOkUptoRow.holds Tryd.pinned (OpenSpec.upto fnExactMachineOkSpec)

/-- 'laws.FnExactOwnersOf', WHERE WHAT IT READS IS OF BULK AT MOST 1048576: true; the input reads as it did. -/
def fnExactOwnersOfUptoRow : OpenClaim := { program := "ytjhaloeahidplaadoor", sum := "c9d20ee125d62648f212c4cd55a1092e6d0462bccf460e782a4677a06127bac7", func := "loop.example/g00384/laws.FnExactOwnersOf", spec := "fnExactOwnersOf", unfollowed := true, recurses := true, named := ["loop.example/g00384/impl.msgShapes"], apart := false, laid := [("loop.example/g00384/impl.msgShapes", laid_loop_example_g00384_impl_msgShapes)], narrowed := true }
def FnExactOwnersOfUptoSaid : Prop := fnExactOwnersOfUptoRow.holds Tryd.pinned (OpenSpec.upto fnExactOwnersOfSpec)

/-- 'laws.FnExactSharersOf', WHERE WHAT IT READS IS OF BULK AT MOST 1048576: true; the input reads as it did. -/
def fnExactSharersOfUptoRow : OpenClaim := { program := "ytjhaloeahidplaadoor", sum := "c9d20ee125d62648f212c4cd55a1092e6d0462bccf460e782a4677a06127bac7", func := "loop.example/g00384/laws.FnExactSharersOf", spec := "fnExactSharersOf", unfollowed := true, recurses := true, named := ["loop.example/g00384/impl.msgShapes"], apart := false, laid := [("loop.example/g00384/impl.msgShapes", laid_loop_example_g00384_impl_msgShapes)], narrowed := true }
def FnExactSharersOfUptoSaid : Prop := fnExactSharersOfUptoRow.holds Tryd.pinned (OpenSpec.upto fnExactSharersOfSpec)

/-- 'laws.FnExactNewestOf', WHERE WHAT IT READS IS OF BULK AT MOST 1048576: true; the input reads as it did. -/
def fnExactNewestOfUptoRow : OpenClaim := { program := "ytjhaloeahidplaadoor", sum := "c9d20ee125d62648f212c4cd55a1092e6d0462bccf460e782a4677a06127bac7", func := "loop.example/g00384/laws.FnExactNewestOf", spec := "fnExactNewestOf", unfollowed := true, recurses := true, named := ["loop.example/g00384/impl.msgShapes"], apart := false, laid := [("loop.example/g00384/impl.msgShapes", laid_loop_example_g00384_impl_msgShapes)], narrowed := true }
def FnExactNewestOfUptoSaid : Prop := fnExactNewestOfUptoRow.holds Tryd.pinned (OpenSpec.upto fnExactNewestOfSpec)

/-- 'laws.FnExactOneWriter', WHERE WHAT IT READS IS OF BULK AT MOST 1048576: true; the input reads as it did. -/
def fnExactOneWriterUptoRow : OpenClaim := { program := "ytjhaloeahidplaadoor", sum := "c9d20ee125d62648f212c4cd55a1092e6d0462bccf460e782a4677a06127bac7", func := "loop.example/g00384/laws.FnExactOneWriter", spec := "fnExactOneWriter", unfollowed := true, recurses := true, named := ["loop.example/g00384/impl.msgShapes"], apart := false, laid := [("loop.example/g00384/impl.msgShapes", laid_loop_example_g00384_impl_msgShapes)], narrowed := true }
def FnExactOneWriterUptoSaid : Prop := fnExactOneWriterUptoRow.holds Tryd.pinned (OpenSpec.upto fnExactOneWriterSpec)

/-- 'laws.FnExactQuiet', WHERE WHAT IT READS IS OF BULK AT MOST 1048576: true; the input reads as it did. -/
def fnExactQuietUptoRow : OpenClaim := { program := "ytjhaloeahidplaadoor", sum := "c9d20ee125d62648f212c4cd55a1092e6d0462bccf460e782a4677a06127bac7", func := "loop.example/g00384/laws.FnExactQuiet", spec := "fnExactQuiet", unfollowed := true, recurses := true, named := ["loop.example/g00384/impl.msgShapes"], apart := false, laid := [("loop.example/g00384/impl.msgShapes", laid_loop_example_g00384_impl_msgShapes)], narrowed := true }
def FnExactQuietUptoSaid : Prop := fnExactQuietUptoRow.holds Tryd.pinned (OpenSpec.upto fnExactQuietSpec)

end Rows
end Go.Proofs.YtjhaloeahidplaaDoor
