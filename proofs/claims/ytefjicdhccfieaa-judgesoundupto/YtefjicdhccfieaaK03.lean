import Derived.Test.YtefjicdhccfieaaK01
import Derived.Test.YtefjicdhccfieaaK02
set_option maxRecDepth 100000
set_option maxHeartbeats 16000000
namespace Go.Proofs.Ytefjicdhccfieaa
open Go.RowKit
theorem andOk_of {G : GrD} {k : Nat} {d : AndD} (h : G.ands[k]? = some d) : andOk G k = (litOkG (G.first + k) d.x && litOkG (G.first + k) d.y) := by
 unfold andOk; rw [h]
theorem range_false {p : Nat → Bool} {n k : Nat} (h : k < n) (hp : p k = false) : (List.range n).all p = false := by
 rw [List.all_eq_false]; exact ⟨k, List.mem_range.2 h, by simp [hp]⟩
end Go.Proofs.Ytefjicdhccfieaa
