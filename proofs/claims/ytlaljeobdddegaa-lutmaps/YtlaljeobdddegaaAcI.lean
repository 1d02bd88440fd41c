import Derived.Test.YtlaljeobdddegaaAcH
import Derived.Test.YtlaljeobdddegaaAgFi
import Derived.Deep.CutBlock
namespace Go.Proofs.Ytlaljeobdddegaa
open Go.RowKit

def nd0C (G : GrD) : List Bool := marks (marks (List.replicate (firstN G + G.ands.length) false) (G.outs.map vOf)) (G.lats.map nOf)
def needR (G : GrD) : List Bool := sweepC (firstN G) (opsOf G) G.ands.length (nd0C G)
def nkOf (G : GrD) : List Bool := (needR G).drop (firstN G)
def cleanOf (G : GrD) : GrD := cleanG (firstN G) (nkOf G) G
theorem nd0C_len (G : GrD) : (nd0C G).length = firstN G + G.ands.length := by unfold nd0C; rw [marks_len, marks_len, List.length_replicate]
theorem needR_len (G : GrD) : (needR G).length = firstN G + G.ands.length := by unfold needR; rw [sweepC_len, nd0C_len]
theorem nkOf_len (G : GrD) : (nkOf G).length = G.ands.length := by unfold nkOf; rw [List.length_drop, needR_len]; omega
end Go.Proofs.Ytlaljeobdddegaa
