/- l1Cut of the model. -/
import Derived.Test.YtfjhgagpmhedfaaDoorSB0
import Derived.Test.YtfjhgagpmhedfaaDoorSA1
namespace Go.Proofs.YtfjhgagpmhedfaaDoor
open Go.RowKit
set_option maxRecDepth 8000
set_option linter.unusedSimpArgs false
set_option linter.unusedVariables false

theorem byte_at (s : ByteArray) (k : Nat) (h : k < s.size) : s.data.toList[k]? = some s[k] := by
  have h' : k < s.data.toList.length := by rw [← size_list]; exact h
  rw [List.getElem?_eq_getElem h']; rfl

theorem ext_mid (s : ByteArray) (i j : Nat) : s.extract i j = bs ((s.data.toList.take j).drop i) := by
  refine (bs_of _).symm.trans (congrArg bs ?_)
  rw [ByteArray.data_extract, Array.toList_extract]
  simp [List.extract, List.drop_take]

theorem ext_take (s : ByteArray) (k : Nat) : s.extract 0 k = bs (s.data.toList.take k) := by rw [ext_mid, List.drop_zero]

theorem ext_drop (s : ByteArray) (k : Nat) : s.extract k s.size = bs (s.data.toList.drop k) := by rw [ext_mid, size_list, List.take_length]

end Go.Proofs.YtfjhgagpmhedfaaDoor