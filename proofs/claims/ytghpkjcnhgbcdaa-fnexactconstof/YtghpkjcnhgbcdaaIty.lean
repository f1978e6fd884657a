/- The width that an instruction gives. -/
import Derived.Test.YtghpkjcnhgbcdaaKnd
namespace Go.Proofs.Ytghpkjcnhgbcdaa
open Go.RowKit

def instW (d : InstD) : Int := if opB d.op = true then resZ d.op d.w else d.w
end Go.Proofs.Ytghpkjcnhgbcdaa
