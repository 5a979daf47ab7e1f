import Derived.Test.YtelmjekjohbmjaaGreatDoorRows
import Derived.Test.YtelmjekjohbmjaaGreatDoorBValidq
import Derived.Lib.LaidU8T
/- What the rows list of utf8's two tables, as the contracts ask for it. -/
namespace Go.Proofs.YtelmjekjohbmjaaGreatDoor
open Go.RowKit

def u8ren : Shelf.Ren := ⟨fun x => x, fun x => if x = 119 then 170 else if x = 138 then 172 else if x = 139 then 173 else if x = 5 then 5 else x, fun x => if x = 3 then 0 else if x = 4 then 1 else x⟩
theorem laid_first : (Rows.laid_unicode_utf8_first : DataW Unit) = Lib.firstData := by kernel_rfl
theorem laid_accept : (Rows.laid_unicode_utf8_acceptRanges : DataW Unit) = Lib.acceptData := by kernel_rfl
theorem tabs_of_laid {W : World} (h : laidMet Tryz.prog [("unicode/utf8.acceptRanges", Rows.laid_unicode_utf8_acceptRanges), ("unicode/utf8.first", Rows.laid_unicode_utf8_first)] W) : L.Tabs W := by
  have h3 := Lib.laidMet.reads h (.tail _ (.head _))
  have h4 := Lib.laidMet.reads h (.head _)
  rw [laid_first] at h3
  rw [laid_accept] at h4
  exact utf8Tabs_of_readsT (ρ := u8ren) ⟨by kernel_rfl, by kernel_rfl, by kernel_rfl, by kernel_rfl⟩ ⟨by kernel_rfl, by kernel_rfl, by kernel_rfl, by kernel_rfl, by kernel_rfl, by kernel_rfl, by kernel_rfl⟩ h3 h4

end Go.Proofs.YtelmjekjohbmjaaGreatDoor

