import Derived.Test.YtjbnejjjbdalaaaDoorFcJ
import Derived.Deep.RegionHeld3
import Derived.Deep.RegionHeldLaw
namespace Go.Proofs.YtjbnejjjbdalaaaDoor
open Go.RowKit Go.Stop

/-- the variable that is read: errors.errorType -/
structure Vars (w : World) : Prop where
  et : w.cell? ⟨0, 0, none⟩ = some (.iface 108 (.agg #[.pointer (some ⟨1, 36, none⟩)]))
theorem Vars.to {B : Nat} {w w' : World} (h : Vars w) (hb : Below B w w') (hB : 1 ≤ B) : Vars w' :=
  ⟨(hb.cell (p := ⟨0, 0, none⟩) (by show 0 < B; omega)).trans h.et⟩
/-- a fault in memory -/
structure FtAt (w : World) (p : Nat) (c a : Int) : Prop where
  lt : p < w.heap.size
  c0 : w.cell? ⟨p, 0, none⟩ = some (.int .i64 c)
  c1 : w.cell? ⟨p, 1, none⟩ = some (.int .i64 a)
theorem FtAt.to {w w' : World} {p : Nat} {c a : Int} (h : FtAt w p c a) (hb : Below w.heap.size w w') : FtAt w' p c a :=
  ⟨Nat.lt_of_lt_of_le h.lt hb.size, (hb.cell (p := ⟨p, 0, none⟩) h.lt).trans h.c0, (hb.cell (p := ⟨p, 1, none⟩) h.lt).trans h.c1⟩
/-- a world with one block that is set in a place -/
theorem set_below {w W : World} {B b : Nat} (h : Below w.heap.size w W) (hB : B ≤ b) (hBw : B ≤ w.heap.size) (v : Value) : Below B w (W.setCell ⟨b, 0, none⟩ v) := (h.mono hBw).setCell (p := ⟨b, 0, none⟩) hB v

set_option maxRecDepth 100000 in
set_option maxHeartbeats 1000000 in
theorem code_any (p : Nat) (c a : Int) (w : World) (h : FtAt w p c a) (hv : Vars w) (h2 : 1 ≤ w.heap.size) :
    Calls Tryd.prog 24 #[.iface 61 (.pointer (some ⟨p, 0, none⟩))] w fun e w' => e = .returned (.tuple #[.int .i64 c, .int .i64 a]) ∧ Below w.heap.size w w' := by
  have HF := hidden h
  have HV := hidden hv
  clear h hv
  go_enter Tryd.func24, Tryd.ntmps24
  go_upto_region 4 with fail
  generalize hW : World.alloc w _ = V
  obtain ⟨fx, hfx⟩ : ∃ x, x = w.heap.size := ⟨_, rfl⟩
  have HBV : Hid (Below w.heap.size w V) := by rw [← hW]; exact (Below.refl _ _).alloc (Nat.le_refl _) _
  have hfl : fx < V.heap.size := by rw [← hW, hfx]; simp
  have m0 : V.cell? ⟨fx, 0, none⟩ = some (.pointer none) := by rw [← hW, hfx]; simp
  have f0 : V.frozen? ⟨fx, 0, none⟩ = false := by rw [← hW, hfx]; exact World.frozen?_alloc_at _ _ _ _ (by simp)
  have hfw : w.heap.size ≤ fx := by omega
  rw [← hfx]
  clear hW hfx
  have AS := hidden (as_fault ⟨p, 0, none⟩ ⟨fx, 0, none⟩ (.pointer none) V (HV.out.to HBV.out h2).et m0 f0)
  have M0 := hidden m0
  clear m0 f0
  go_wp2_with fail
  go_at_call 36
  refine AS.out.mono ?_
  rintro e w1 ⟨rfl, W4, hb4, hw1⟩
  have m1 : w1.cell? ⟨fx, 0, none⟩ = some (.pointer (some ⟨p, 0, none⟩)) := by
    rw [hw1]
    exact World.cell?_setCell_same' _ _ _ (by rw [(hb4.cell (p := ⟨fx, 0, none⟩) hfl).trans M0.out]; rfl)
  have HB1 : Hid (Below w.heap.size w w1) := by rw [hw1]; exact set_below (HBV.out.trans (hb4.mono HBV.out.size)) hfw (Nat.le_refl _) _
  clear hb4 hw1 AS
  go_wp2_with fail
  have c0 := (HB1.out.cell (p := ⟨p, 0, none⟩) HF.out.lt).trans HF.out.c0
  have c1 := (HB1.out.cell (p := ⟨p, 1, none⟩) HF.out.lt).trans HF.out.c1
  go_quiet (fail)
  go_wp2
  go_ret2
  exact ⟨rfl, Below.drewN HB1.out _⟩
theorem code_nil (w : World) : Calls Tryd.prog 24 #[.nilIface] w fun e w' => e = .returned (.tuple #[.int .i64 0, .int .i64 0]) ∧ w' = w := by
  go_enter Tryd.func24, Tryd.ntmps24
  go_wp2
  go_ret2
  exact ⟨rfl, rfl⟩

/-- what a layer tells: no fault, or one -/
def ErrAt (w : World) (v : Value) (c a : Int) : Prop := (v = .nilIface ∧ c = 0 ∧ a = 0) ∨ ∃ p, v = .iface 61 (.pointer (some ⟨p, 0, none⟩)) ∧ FtAt w p c a
theorem ErrAt.to {w w' : World} {v : Value} {c a : Int} (h : ErrAt w v c a) (hb : Below w.heap.size w w') : ErrAt w' v c a := by
  rcases h with h | ⟨p, hp, h⟩
  · exact .inl h
  · exact .inr ⟨p, hp, h.to hb⟩
theorem code_err (v : Value) (c a : Int) (w : World) (h : ErrAt w v c a) (hv : Vars w) (h2 : 1 ≤ w.heap.size) :
    Calls Tryd.prog 24 #[v] w fun e w' => e = .returned (.tuple #[.int .i64 c, .int .i64 a]) ∧ Below w.heap.size w w' := by
  rcases h with ⟨rfl, rfl, rfl⟩ | ⟨p, rfl, h⟩
  · refine (code_nil w).mono ?_
    rintro e w' ⟨rfl, rfl⟩
    exact ⟨rfl, Below.refl _ _⟩
  · exact code_any p c a w h hv h2
set_option maxRecDepth 100000 in
set_option maxHeartbeats 1000000 in
theorem faulty_any (v : Value) (c a : Int) (w : World) (h : ErrAt w v c a) (hv : Vars w) (h2 : 1 ≤ w.heap.size) :
    Calls Tryd.prog 9 #[v, .agg #[.int .i64 c, .int .i64 a]] w fun e w' => e = .returned (.bool true) ∧ Below w.heap.size w w' := by
  have CE : Hid (∀ w', Below w.heap.size w w' → Calls Tryd.prog 24 #[v] w' fun e w'' => e = .returned (.tuple #[.int .i64 c, .int .i64 a]) ∧ Below w'.heap.size w' w'') := fun w' hw' => code_err v c a w' (h.to hw') (hv.to hw' h2) (Nat.le_trans h2 hw'.size)
  clear h hv
  go_enter Tryd.func9, Tryd.ntmps9
  go_upto_region 1 with fail
  generalize hW : World.alloc w _ = V
  obtain ⟨gx, hgx⟩ : ∃ x, x = w.heap.size := ⟨_, rfl⟩
  have HBV : Hid (Below w.heap.size w V) := by rw [← hW]; exact (Below.refl _ _).alloc (Nat.le_refl _) _
  have HG : Hid (Blk V gx 40 #[.int .i64 c, .int .i64 a]) := by rw [← hW, hgx]; exact Blk.new w 40 _
  rw [← hgx]
  clear hW hgx
  go_wp2_with fail
  go_at_call 24
  refine (CE.out _ HBV.out).mono ?_
  rintro e w1 ⟨rfl, hb1⟩
  have q0 : w1.cell? ⟨gx, 0, none⟩ = some (.int .i64 c) := (HG.out.below hb1).cell rfl
  have q1 : w1.cell? ⟨gx, 1, none⟩ = some (.int .i64 a) := (HG.out.below hb1).cell rfl
  have HB1 : Hid (Below w.heap.size w w1) := HBV.out.trans (hb1.mono HBV.out.size)
  clear hb1 CE
  go_wp2
  go_ret
  exact ⟨rfl, HB1.out⟩


end Go.Proofs.YtjbnejjjbdalaaaDoor
