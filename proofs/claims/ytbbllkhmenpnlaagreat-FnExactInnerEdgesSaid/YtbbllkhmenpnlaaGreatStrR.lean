import Derived.Test.YtbbllkhmenpnlaaGreatRepUni
/-
  Strings as a kind of data, by name (made by tools/uexact.py).
-/
namespace Go.Proofs.YtbbllkhmenpnlaaGreat
open Go.RowKit
namespace Mem
open RowK
abbrev strR : Rep ByteArray := Rep.str
end Mem
end Go.Proofs.YtbbllkhmenpnlaaGreat
