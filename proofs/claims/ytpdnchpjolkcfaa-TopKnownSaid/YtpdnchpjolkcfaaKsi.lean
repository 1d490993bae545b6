/- Arguments: bytes. -/
import Derived.Test.YtpdnchpjolkcfaaKt7
import Derived.Test.YtpdnchpjolkcfaaKsh
set_option linter.unusedVariables false
namespace Go.Q
open Go.V Go.ChangeShapes Go.WideShapes Go.ChangeAt Go.RowKit
theorem conf_bytes {d : D} (h : Conf (.list [.int .u8]) d) : ∃ bs : List By, d = bys bs ∧ bs.length ≤ 9223372036854775807 := conf_list h fun x hx => by
  obtain ⟨d0, t0, rfl, h0, h1⟩ := hx
  rw [show t0 = [] from h1]
  obtain ⟨n, rfl, g0, g1⟩ := conf_u8 h0
  obtain ⟨m, rfl⟩ := Int.eq_ofNat_of_zero_le g0
  exact ⟨⟨m, by omega⟩, rfl⟩
end Go.Q
