import Derived.Test.YtjbnejjjbdalaaaDoorFaP
namespace Go.Proofs.YtjbnejjjbdalaaaDoor
open Go.RowKit

/-- the fabric's loader, whole -/
theorem loaded_any (B : Nat) (w : World) (hBw : B ≤ w.heap.size) (a : Option Addr) (c : Nat) (bs : List Nat) (R : RowAt B w a 1 (bs.map byteC)) (hl : bs.length < 281474976710656) (hby : ∀ x, x ∈ bs → x < 256) (hc : bs.length ≤ c) :
    Calls Tryd.prog 16 #[.slice a bs.length c] w fun e w' => LoadE e w' (gOk bs) (bitL bs) ∧ Below w.heap.size w w' := by
  cases hh : headOk bs
  · have hg : gOk bs = false := by unfold gOk; rw [hh]; rfl
    rw [hg]
    refine (loaded_head B w hBw a c bs R hl hby hc hh).mono ?_
    rintro e w' ⟨rfl, hb⟩
    exact ⟨⟨_, rfl, ⟨⟨0, 0, 0, 0, 0⟩, none, 0, 0, none, 0, 0, none, 0, 0, rfl⟩, fun h => by cases h⟩, hb⟩
  · exact loaded_go B w hBw a c bs R hl hby hc hh

end Go.Proofs.YtjbnejjjbdalaaaDoor
