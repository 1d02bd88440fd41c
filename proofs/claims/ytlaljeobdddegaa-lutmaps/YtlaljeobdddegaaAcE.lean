import Derived.Test.YtlaljeobdddegaaAcD
namespace Go.Proofs.Ytlaljeobdddegaa
open Go.RowKit

def iV (x : Nat) : Value := .int .i64 (x : Int)
end Go.Proofs.Ytlaljeobdddegaa
