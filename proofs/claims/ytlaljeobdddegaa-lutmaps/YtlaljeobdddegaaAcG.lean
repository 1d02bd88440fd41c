import Derived.Test.YtlaljeobdddegaaAcF
namespace Go.Proofs.Ytlaljeobdddegaa
open Go.RowKit

def latC (first : Nat) (nk : List Bool) (l : LatD) : List Value := [.int .i64 (litC first nk l.next), .bool l.init]
end Go.Proofs.Ytlaljeobdddegaa
