import Derived.Test.YtlaljeobdddegaaMqX
import Derived.Test.YtlaljeobdddegaaMpJ
namespace Go.Proofs.Ytlaljeobdddegaa
open Go.RowKit Mp

/-- of each leaf a bit -/
def mkM (l : List Nat) : Nat := mkB 64 fun j => l.any fun v => v % 64 == j
def lvN (c : Ct) (j : Nat) : Nat := c.lv.getD j 0
/-- the cells of a cut -/
def ctC (c : Ct) : List Value := [.int .i64 (lvN c 0 : Nat), .int .i64 (lvN c 1 : Nat), .int .i64 (lvN c 2 : Nat), .int .i64 (lvN c 3 : Nat), .int .i64 (c.lv.length : Nat), .int .u64 (mkM c.lv : Nat), .int .i64 (c.dep : Nat), .int .u16 (c.tb : Nat)]
/-- a cut that lies somewhere -/
structure CtAt (w : World) (b o : Nat) (c : Ct) : Prop where
  lt : b < w.heap.size
  c0 : w.cell? ⟨b, o, none⟩ = some (.int .i64 (lvN c 0 : Nat))
  c1 : w.cell? ⟨b, o + 1, none⟩ = some (.int .i64 (lvN c 1 : Nat))
  c2 : w.cell? ⟨b, o + 2, none⟩ = some (.int .i64 (lvN c 2 : Nat))
  c3 : w.cell? ⟨b, o + 3, none⟩ = some (.int .i64 (lvN c 3 : Nat))
  c4 : w.cell? ⟨b, o + 4, none⟩ = some (.int .i64 (c.lv.length : Nat))
  c5 : w.cell? ⟨b, o + 5, none⟩ = some (.int .u64 (mkM c.lv : Nat))
  c6 : w.cell? ⟨b, o + 6, none⟩ = some (.int .i64 (c.dep : Nat))
  c7 : w.cell? ⟨b, o + 7, none⟩ = some (.int .u16 (c.tb : Nat))
theorem CtAt.to {B : Nat} {w w' : World} {b o : Nat} {c : Ct} (h : CtAt w b o c) (hb : b < B) (hw : Below B w w') : CtAt w' b o c :=
  ⟨Nat.lt_of_lt_of_le h.lt hw.size, (hw.cell (p := ⟨b, o, none⟩) hb).trans h.c0, (hw.cell (p := ⟨b, o + 1, none⟩) hb).trans h.c1, (hw.cell (p := ⟨b, o + 2, none⟩) hb).trans h.c2, (hw.cell (p := ⟨b, o + 3, none⟩) hb).trans h.c3, (hw.cell (p := ⟨b, o + 4, none⟩) hb).trans h.c4, (hw.cell (p := ⟨b, o + 5, none⟩) hb).trans h.c5, (hw.cell (p := ⟨b, o + 6, none⟩) hb).trans h.c6, (hw.cell (p := ⟨b, o + 7, none⟩) hb).trans h.c7⟩
theorem CtAt.leaf {w : World} {b o : Nat} {c : Ct} (h : CtAt w b o c) (h4 : c.lv.length ≤ 4) {k x : Nat} (hx : c.lv[k]? = some x) : w.cell? ⟨b, o + k, none⟩ = some (.int .i64 (x : Nat)) := by
  have hk := (List.getElem?_eq_some_iff.1 hx).1
  have hk4 : k = 0 ∨ k = 1 ∨ k = 2 ∨ k = 3 := by omega
  have e : lvN c k = x := by unfold lvN; rw [List.getD_eq_getElem?_getD, hx]; rfl
  rcases hk4 with rfl | rfl | rfl | rfl
  · rw [← e]; exact h.c0
  · rw [← e]; exact h.c1
  · rw [← e]; exact h.c2
  · rw [← e]; exact h.c3
theorem CtAt.row {w : World} {b o : Nat} {c : Ct} (h : CtAt w b o c) (h4 : c.lv.length ≤ 4) : ∀ k y, c.lv[k]? = some y → ∃ b' o', (some ⟨b, o, none⟩ : Option Addr) = some ⟨b', o', none⟩ ∧ w.cell? ⟨b', o' + k, none⟩ = some (.int .i64 (y : Nat)) := fun _ _ hy => ⟨b, o, rfl, h.leaf h4 hy⟩
theorem CtAt.of {w : World} {b o : Nat} {c : Ct} (hb : b < w.heap.size) (h : ∀ (j : Nat) (v : Value), (ctC c)[j]? = some v → w.cell? ⟨b, o + j, none⟩ = some v) : CtAt w b o c :=
  ⟨hb, h 0 _ rfl, h 1 _ rfl, h 2 _ rfl, h 3 _ rfl, h 4 _ rfl, h 5 _ rfl, h 6 _ rfl, h 7 _ rfl⟩

theorem arr4 : Try.prog.underlying 110 = some (.array (Try.prog.arrayLen 110) (Try.prog.elem 110)) := by kernel_rfl
theorem arr4l : Try.prog.arrayLen 110 = 4 := by kernel_rfl
theorem arr4s (wx : World) : (sizeOf (Try.prog.elem 110)).run Try.prog wx = .ok 1 wx := by kernel_rfl
theorem leaves_sl (wx : World) (b o n : Nat) (h4 : n ≤ 4) : (Instr.sliceAt 110 (.pointer (some ⟨b, o, none⟩)) none (some (.int .i64 (n : Int))) (some (.int .i64 (n : Int)))).run Try.prog wx = .ok (.slice (some ⟨b, o, none⟩) n n) wx := by
  rw [run_sliceAt_array_hm wx _ _ arr4 .i64 .i64 n n (by omega) (Int.le_refl _) (by rw [arr4l]; omega), arr4s]
  show Result.ok (slicedAt _ 0 n n 1) wx = _
  unfold slicedAt
  have : (if n = 0 then (⟨b, o, none⟩ : Addr) else (⟨b, o, none⟩ : Addr).add (0 * 1)) = ⟨b, o, none⟩ := by
    split
    · rfl
    · unfold Addr.add; split <;> simp_all
  rw [this]; rfl

set_option maxRecDepth 100000 in
set_option maxHeartbeats 8000000 in
theorem list_any (w : World) (b o : Nat) (c : Ct) (h : CtAt w b o c) (h4 : c.lv.length ≤ 4) :
    Calls Try.prog 75 #[.pointer (some ⟨b, o, none⟩)] w fun e w' => e = .returned (.slice (some ⟨b, o, none⟩) c.lv.length c.lv.length) ∧ w' = w.drewN 1 := by
  have q4 := h.c4
  obtain ⟨n, En⟩ := exh c.lv.length
  rw [← En.out] at q4 h4
  rw [← En.out]
  have h0 : (0 : Int) ≤ (n : Int) := by omega
  have h4I : (n : Int) ≤ 4 := by omega
  have RS : ∀ wx : World, (Instr.sliceAt 110 (.pointer (some ⟨b, o, none⟩)) none (some (.int .i64 (n : Int))) (some (.int .i64 (n : Int)))).run Try.prog wx = .ok (.slice (some ⟨b, o, none⟩) n n) wx := fun wx => leaves_sl wx b o n h4
  clear h
  go_enter Try.func75, Try.ntmps75
  go_wp2_with fail
  refine wp_region_noPanic ?_
  refine wp_region_held_drew (S := fun v => v.cell? ⟨b, o + 4, none⟩ = some (.int .i64 (n : Int))) (by kernel_rfl) (by exact q4) (fun hHeld => ?_)
  refine tk 0 ?_
  refine tk 1 ?_
  refine tk 2 ?_
  refine tk 3 ?_
  refine tk 4 ?_
  refine tk 5 ?_
  refine tk 6 ?_
  refine tk 7 ?_
  refine tk 8 ?_
  refine tk 9 ?_
  refine tk 10 ?_
  refine tk 11 ?_
  refine tk 12 ?_
  refine wpAnyH_done (by kernel_rfl) ?_ _
  refine NoPanic.normal ?_
  go_wp2
  go_ret
  exact ⟨rfl, rfl⟩
end Go.Proofs.Ytlaljeobdddegaa
