import Derived.Test.YtbdpohcababccaaGreatStrKeep
/-
  Marks in a slice of strings, with the stretch of blocks in which it lies.
-/
namespace Go.Proofs.YtbdpohcababccaaGreat
open Go.RowKit
namespace StrK
open RowK
end StrK
end Go.Proofs.YtbdpohcababccaaGreat
