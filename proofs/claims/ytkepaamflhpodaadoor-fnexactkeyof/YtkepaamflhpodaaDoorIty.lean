/- The width that an instruction gives. -/
import Derived.Test.YtkepaamflhpodaaDoorKnd
namespace Go.Proofs.YtkepaamflhpodaaDoor
open Go.RowKit

def instW (d : InstD) : Int := if opB d.op = true then resZ d.op d.w else d.w
end Go.Proofs.YtkepaamflhpodaaDoor
