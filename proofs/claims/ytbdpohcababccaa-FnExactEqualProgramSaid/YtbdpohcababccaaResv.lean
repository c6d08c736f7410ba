import Derived.Test.YtbdpohcababccaaProg
import Derived.Test.YtbdpohcababccaaMapKit
import Derived.Test.YtbdpohcababccaaNameMath
import Derived.Lib.Hide
/-
  The program's IsReserved: a map that is built anew, and one look-up.
-/
namespace Go.Proofs.Ytbdpohcababccaa
open Go.RowKit Go.WideMaps Go.Maps
namespace MapK

theorem resv_eq (s : ByteArray) : (decide (s.data.toList = [110, 105, 108]) || (decide (s.data.toList = [114, 101, 116, 117, 114, 110]) || (decide (s.data.toList = [114, 117, 108, 101]) || (decide (s.data.toList = [112, 114, 101]) || (decide (s.data.toList = [102, 117, 110]) || false))))) = NameM.resv s := by
  unfold NameM.resv NameM.hasB NameM.resList
  rw [Bool.eq_iff_iff]
  simp only [List.map_cons, List.map_nil, Bool.or_eq_true, decide_eq_true_eq, List.mem_cons, List.not_mem_nil, Bool.false_eq_true, or_false]
  constructor
  · rintro (h | h | h | h | h) <;> simp [h]
  · rintro (h | h | h | h | h) <;> simp [h]

end MapK
end Go.Proofs.Ytbdpohcababccaa
