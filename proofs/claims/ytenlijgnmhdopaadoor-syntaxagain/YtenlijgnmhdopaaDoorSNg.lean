/- Plain lists: choices numbered as they come; types that would be read as other words. -/
import Derived.Test.YtenlijgnmhdopaaDoorSPure
namespace Go.Proofs.YtenlijgnmhdopaaDoor

def setC (c : Nat) (f : Fld) : Fld := ⟨f.name, f.number, f.kind, f.type, f.many, c⟩
/-- Choices numbered as they come. -/
def numGo : Nat → Nat → List Fld → List Fld
  | _, _, [] => []
  | last, k, x :: r =>
    if x.choice = 0 then setC 0 x :: numGo 0 k r
    else if x.choice = last then setC k x :: numGo x.choice k r
    else setC (k + 1) x :: numGo x.choice (k + 1) r
/-- A type that would be read as another word. -/
def clashF (f : Fld) : Bool := decide (f.type = kwRepeated) || (decide (f.type = kwReserved) || decide (f.type = kwOneof))
def clashL (ms : List Msg) : Bool := ms.any fun m => m.fields.any clashF

end Go.Proofs.YtenlijgnmhdopaaDoor
