import Derived.Test.YtibjgoigdajkkaaDoorJ43
import Derived.Deep.RegionHeld3
import Derived.Deep.RegionHeldLaw
import Derived.Test.YtibjgoigdajkkaaDoorJ41
import Derived.Test.YtibjgoigdajkkaaDoorJ42
namespace Go.Proofs.YtibjgoigdajkkaaDoor
open Go.RowKit Go.Stop

/-- the variable that is read: errors.errorType -/
structure Vars (w : World) : Prop where
  et : w.cell? ⟨0, 0, none⟩ = some (.iface 116 (.agg #[.pointer (some ⟨1, 38, none⟩)]))
theorem Vars.to {B : Nat} {w w' : World} (h : Vars w) (hb : Below B w w') (hB : 1 ≤ B) : Vars w' :=
  ⟨(hb.cell (p := ⟨0, 0, none⟩) (by show 0 < B; omega)).trans h.et⟩
/-- a fault in memory -/
structure FtAt (w : World) (p : Nat) (c a : Int) : Prop where
  lt : p < w.heap.size
  c0 : w.cell? ⟨p, 0, none⟩ = some (.int .i64 c)
  c1 : w.cell? ⟨p, 1, none⟩ = some (.int .i64 a)
theorem FtAt.to {w w' : World} {p : Nat} {c a : Int} (h : FtAt w p c a) (hb : Below w.heap.size w w') : FtAt w' p c a :=
  ⟨Nat.lt_of_lt_of_le h.lt hb.size, (hb.cell (p := ⟨p, 0, none⟩) h.lt).trans h.c0, (hb.cell (p := ⟨p, 1, none⟩) h.lt).trans h.c1⟩
/-- a world with one block that is set in a place -/
theorem set_below {w W : World} {B b : Nat} (h : Below w.heap.size w W) (hB : B ≤ b) (hBw : B ≤ w.heap.size) (v : Value) : Below B w (W.setCell ⟨b, 0, none⟩ v) := (h.mono hBw).setCell (p := ⟨b, 0, none⟩) hB v
set_option maxRecDepth 100000 in
set_option maxHeartbeats 1000000 in
theorem code_any (p : Nat) (c a : Int) (w : World) (h : FtAt w p c a) (hv : Vars w) (h2 : 1 ≤ w.heap.size) :
    Calls Tryd.prog 8 #[.iface 60 (.pointer (some ⟨p, 0, none⟩))] w fun e w' => e = .returned (.tuple #[.int .i64 c, .int .i64 a]) ∧ Below w.heap.size w w' := by
  have HF := hidden h
  have HV := hidden hv
  clear h hv
  go_enter Tryd.func8, Tryd.ntmps8
  go_upto_region 4 with fail
  generalize hW : World.alloc w _ = V
  obtain ⟨fx, hfx⟩ : ∃ x, x = w.heap.size := ⟨_, rfl⟩
  have HBV : Hid (Below w.heap.size w V) := by rw [← hW]; exact (Below.refl _ _).alloc (Nat.le_refl _) _
  have hfl : fx < V.heap.size := by rw [← hW, hfx]; simp
  have m0 : V.cell? ⟨fx, 0, none⟩ = some (.pointer none) := by rw [← hW, hfx]; simp
  have f0 : V.frozen? ⟨fx, 0, none⟩ = false := by rw [← hW, hfx]; exact World.frozen?_alloc_at _ _ _ _ (by simp)
  have hfw : w.heap.size ≤ fx := by omega
  rw [← hfx]
  clear hW hfx
  have AS := hidden (as_fault ⟨p, 0, none⟩ ⟨fx, 0, none⟩ (.pointer none) V (HV.out.to HBV.out h2).et m0 f0)
  have M0 := hidden m0
  clear m0 f0
  go_wp2_with fail
  go_at_call 22
  refine AS.out.mono ?_
  rintro e w1 ⟨rfl, W4, hb4, hw1⟩
  have m1 : w1.cell? ⟨fx, 0, none⟩ = some (.pointer (some ⟨p, 0, none⟩)) := by
    rw [hw1]
    exact World.cell?_setCell_same' _ _ _ (by rw [(hb4.cell (p := ⟨fx, 0, none⟩) hfl).trans M0.out]; rfl)
  have HB1 : Hid (Below w.heap.size w w1) := by rw [hw1]; exact set_below (HBV.out.trans (hb4.mono HBV.out.size)) hfw (Nat.le_refl _) _
  clear hb4 hw1 AS
  go_wp2_with fail
  have c0 := (HB1.out.cell (p := ⟨p, 0, none⟩) HF.out.lt).trans HF.out.c0
  have c1 := (HB1.out.cell (p := ⟨p, 1, none⟩) HF.out.lt).trans HF.out.c1
  go_quiet (fail)
  go_wp2
  go_ret2
  exact ⟨rfl, Below.drewN HB1.out _⟩
theorem code_nil (w : World) : Calls Tryd.prog 8 #[.nilIface] w fun e w' => e = .returned (.tuple #[.int .i64 0, .int .i64 0]) ∧ w' = w := by
  go_enter Tryd.func8, Tryd.ntmps8
  go_wp2
  go_ret2
  exact ⟨rfl, rfl⟩
/-- what a layer tells: no fault, or one -/
def ErrAt (w : World) (v : Value) (c a : Int) : Prop := (v = .nilIface ∧ c = 0 ∧ a = 0) ∨ ∃ p, v = .iface 60 (.pointer (some ⟨p, 0, none⟩)) ∧ FtAt w p c a
theorem ErrAt.to {w w' : World} {v : Value} {c a : Int} (h : ErrAt w v c a) (hb : Below w.heap.size w w') : ErrAt w' v c a := by
  rcases h with h | ⟨p, hp, h⟩
  · exact .inl h
  · exact .inr ⟨p, hp, h.to hb⟩


end Go.Proofs.YtibjgoigdajkkaaDoor

namespace Go.Proofs.YtibjgoigdajkkaaDoor
open Go.RowKit

/-- must a net fit a shape? -/
def fitsB (s : ShD) (N : NtD) : Bool := s.ok && decide (N.ins ≤ s.ins) && decide ((N.outs.length : Int) ≤ s.outs) && decide ((N.init.length : Int) ≤ s.regs) && decide (mostI (depN N) 1 ≤ s.cols) && decide (N.ins + N.init.length + N.tabs.length ≤ s.rows)
theorem ok_bits {N : NtD} (h : NtOk N = true) : ∀ d, d ∈ N.tabs → d.bits < 65536 := fun d hd => by
  unfold NtOk at h
  simp only [Bool.and_eq_true] at h
  obtain ⟨k, hk⟩ := List.getElem?_of_mem hd
  have hl := (List.getElem?_eq_some_iff.1 hk).1
  have := List.all_eq_true.1 h.1.1.2 k (List.mem_range.2 hl)
  unfold tabOk at this
  rw [hk] at this
  dsimp only at this
  unfold TbD.ok at this
  simp only [Bool.and_eq_true, decide_eq_true_eq] at this
  obtain ⟨⟨h4, _⟩, _, h2⟩ := this
  have h5 : d.ins.length = 0 ∨ d.ins.length = 1 ∨ d.ins.length = 2 ∨ d.ins.length = 3 ∨ d.ins.length = 4 := by omega
  rcases h5 with e | e | e | e | e <;> rw [e] at h2 <;> (have : pw 0 = 2 ∧ pw 1 = 4 ∧ pw 2 = 16 ∧ pw 3 = 256 ∧ pw 4 = 65536 := ⟨rfl, rfl, rfl, rfl, rfl⟩) <;> omega
/-- a configuration that shows what a net shows -/
structure FitD (w : World) (N : NtD) (sh : ShD) (SC : CnS) (M : CnD) : Prop where
  at_ : CnAt w.heap.size w SC M
  ok : CnOk M = true
  shp : M.sh = sh
  run : ∀ tr, (runC M (tr.map (inRow N.ins.toNat)) (M.regs.map RgD.init)).map (inRow N.outs.length) = runT N tr N.init
  lar : N.ins ≤ sh.ins ∧ (N.outs.length : Int) ≤ sh.outs ∧ (N.init.length : Int) ≤ sh.regs
theorem FitD.of {w : World} {D : PnS} {T : PnT} {N : NtD} {ni si nr rr so rows : Nat} {SC : CnS} {M : CnD} (hc : CnAt w.heap.size w SC M) (hL : LaidP D T N ni si nr rr so rows M) (hok : NtOk N = true) (hin : NtIn N) (hP : PlNet D N ni nr) (hG : Good D T) (hsp : spreadB D T = true) (hcc : D.sh.cols = D.cc ∧ 1 ≤ D.cc) (hni : ∀ j, j < D.n → ∀ x, x ∈ D.ins j → x < j) (hso : D.sh.ok = true) (h1 : ni ≤ si) (h2 : nr ≤ rr) (h3 : N.outs.length ≤ so) (hrw : D.sh.rows = rows) (hrg : D.sh.regs = rr) (hot : D.sh.outs = so) : FitD w N D.sh SC M := by
  have hrow : ∀ c, c < D.cc → (heldK D T D.n c).length ≤ rows := fun c hcl => good_rows hG hcc.2 hsp hrw hcl
  have hrun := fun tr => laid_run hL hin hP.ins hP.init h1 h2 h3 (fun c hcl => good_look (si := si) hP hG hin hni hcl) hrow (good_ends hP hG hin) tr N.init hP.init
  refine ⟨hc, laid_ok hL hin (ok_bits hok) h1 h2 hso hcc.1 hcc.2 hrw hrg hot hrow, hL.sh, fun tr => ?_, ?_⟩
  · rw [laid_init hL hP.init h2, hP.ins, Int.toNat_natCast]
    exact hrun tr
  · rw [hP.ins, hP.init, hL.hsi, hrg, hot]
    omega


end Go.Proofs.YtibjgoigdajkkaaDoor
