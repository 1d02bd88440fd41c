import Derived.Test.YtdiahnommkhkiaaDoorJ36
import Derived.Test.YtdiahnommkhkiaaDoorJ37
import Derived.Test.YtdiahnommkhkiaaDoorJ29
namespace Go.Proofs.YtdiahnommkhkiaaDoor
open Go.RowKit

def zeroH : Value := .agg #[.int .i64 0, .int .i64 0, .int .i64 0, .int .i64 0]


end Go.Proofs.YtdiahnommkhkiaaDoor
