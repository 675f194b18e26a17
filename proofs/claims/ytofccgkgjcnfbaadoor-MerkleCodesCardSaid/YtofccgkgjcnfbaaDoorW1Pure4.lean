/-
  The plain mathematics of the order of encodings: the encodings of integers, compared byte by byte, have the order of the integers.
  No condition but that the integers are int64s; it speaks of lists of bytes and of numbers alone.
-/
import Derived.Test.YtofccgkgjcnfbaaDoorGAuxPureIntPure2
import GoSem.Op.String
set_option linter.unusedSimpArgs false
namespace Go.Proofs.YtofccgkgjcnfbaaDoor
namespace Wr
open Go.Op (bytesLess)
theorem flip_toNat (c : UInt8) : (c ^^^ 255).toNat = 255 - c.toNat := byte_all (fun c => (c ^^^ 255).toNat = 255 - c.toNat) (by decide +kernel) c
end Wr
end Go.Proofs.YtofccgkgjcnfbaaDoor
