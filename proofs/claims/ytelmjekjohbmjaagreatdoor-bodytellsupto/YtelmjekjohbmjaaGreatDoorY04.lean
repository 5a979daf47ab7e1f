import Derived.Test.YtelmjekjohbmjaaGreatDoorRows
import Derived.Test.YtelmjekjohbmjaaGreatDoorY03
import Derived.Lib.LaidU8T
namespace Go.Proofs.YtelmjekjohbmjaaGreatDoor
open Go.RowKit
def C2d:Shelf.Ren:=⟨fun x=>x,fun x=>if x=119 then 170 else if x=138 then 172 else if x=139 then 173 else if x=5 then 5 else x,fun x=>if x=3 then 0 else if x=4 then 1 else x⟩
theorem B3y:(Rows.laid_unicode_utf8_first:DataW Unit)=Lib.firstData:=by kernel_rfl
theorem B1q:(Rows.laid_unicode_utf8_acceptRanges:DataW Unit)=Lib.acceptData:=by kernel_rfl
theorem B0q {W : World} (h : laidMet Tryz.prog [("unicode/utf8.acceptRanges", Rows.laid_unicode_utf8_acceptRanges), ("unicode/utf8.first", Rows.laid_unicode_utf8_first)] W) : L.Tabs W := by
 have h3:=Lib.laidMet.reads h (.tail _ (.head _))
 have h4:=Lib.laidMet.reads h (.head _)
 rw[B3y] at h3
 rw[B1q] at h4
 exact utf8Tabs_of_readsT (ρ:=C2d) ⟨by kernel_rfl,by kernel_rfl,by kernel_rfl,by kernel_rfl⟩ ⟨by kernel_rfl,by kernel_rfl,by kernel_rfl,by kernel_rfl,by kernel_rfl,by kernel_rfl,by kernel_rfl⟩ h3 h4
end Go.Proofs.YtelmjekjohbmjaaGreatDoor
