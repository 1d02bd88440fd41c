import Derived.Test.YtfemaahmafndmaaWdF
import Derived.Deep.RegionHeldLaw
import Derived.Deep.AppendLies
namespace Go.Proofs.Ytfemaahmafndmaa
open Go.RowKit

def widthAt (N : NetD) (a : Int) : Int := (N.nodes[a.toNat]?.map NodeD.width).getD 0
def wsOf (N : NetD) (l : List Int) : List Int := l.map (widthAt N)
def badArg (i : Nat) (a : Int) : Bool := decide (a < 0 ∨ (i : Int) ≤ a)
/-- a node that falls by itself -/
abbrev nodeOut (d : NodeD) : Prop := widthOk d.width = false ∨ wantOf d.kind = -2 ∨ (0 ≤ wantOf d.kind ∧ (d.args.length : Int) ≠ wantOf d.kind) ∨ (wantOf d.kind = -1 ∧ d.args.length = 0)
/-- the rest of it -/
def nodeEnd (N : NetD) (d : NodeD) : Bool :=
  if d.kind = 30 then decide (d.num < (N.ins.length : Int) ∧ at0 N.ins d.num.toNat = d.width)
  else if d.kind = 31 then decide (d.num < (N.regs.length : Int) ∧ ((N.regs[d.num.toNat]?.map RegD.width).getD 0) = d.width)
  else if d.kind = 32 then decide (d.num < (N.mems.length : Int) ∧ ((N.mems[d.num.toNat]?.map MemD.width).getD 0) = d.width)
  else if d.kind = 1 ∨ d.kind = 5 then fitsOf d.kind d.width d.num (wsOf N d.args)
  else decide (d.num = 0 ∧ fitsOf d.kind d.width d.num (wsOf N d.args) = true)
def nodeOk (N : NetD) (i : Nat) (d : NodeD) : Bool :=
  if nodeOut d then false else if d.args.any (badArg i) then false else nodeEnd N d

theorem info_int0 : (Try.prog.info? 3).map (fun i => (i.zero, i.size, i.bytes)) = some (some (.int .i64 0), 1, 8) := by kernel_rfl
theorem info_int : ∃ i, Try.prog.info? 3 = some i ∧ i.zero = some (.int .i64 0) ∧ i.size = 1 ∧ i.bytes = 8 := by
  have h := info_int0
  cases hi : Try.prog.info? 3 with
  | none => rw [hi] at h; cases h
  | some i => rw [hi] at h; simp at h; exact ⟨i, rfl, h.1, h.2.1, h.2.2⟩

set_option maxRecDepth 100000 in
set_option maxHeartbeats 8000000 in
theorem nodeValid_early (B : Nat) (w : World) (S : NetS) (N : NetD) (h : NetAt B w S N) (hB : B ≤ w.heap.size) (i : Nat) (d : NodeD) (hd : N.nodes[i]? = some d) (ho : nodeOut d) :
    Calls Try.prog 20 #[.agg (S.cells N), .int .i64 i] w fun e w' => e = .returned (.bool false) ∧ Below w.heap.size w w' := by
  unfold NetS.cells
  obtain ⟨b, o, ha, hlt, hc⟩ := h.n.el hd
  have hi : i < N.nodes.length := by
    rcases Nat.lt_or_ge i N.nodes.length with h' | h'
    · exact h'
    · rw [List.getElem?_eq_none h'] at hd; cases hd
  have c0 : w.cell? ⟨b, o + i * 4, none⟩ = _ := hc 0 _ rfl
  have c1 := hc 1 _ rfl
  have c2 := hc 2 _ rfl
  have c3 := hc 3 _ rfl
  have hb : b < w.heap.size := Nat.lt_of_lt_of_le hlt hB
  have hiI : (i : Int) < (N.nodes.length : Int) := by omega
  have WD : Hid (∀ w, Calls Try.prog 18 #[.int .i64 d.width] w fun e w' => e = .returned (.bool (widthOk d.width)) ∧ w' = w) := fun w => width_any d.width w
  have WT : Hid (∀ w, Calls Try.prog 30 #[.int .i64 d.kind] w fun e w' => e = .returned (.int .i64 (wantOf d.kind)) ∧ w' = w) := fun w => want_any d.kind w
  have HO : Hid (nodeOut d) := ho
  rw [ha]
  clear ha hc h hd ho
  obtain ⟨kind, width, num, args, aa, ac⟩ := d
  simp only at c0 c1 c2 c3 WD WT
  unfold nodeOut at HO
  simp only at HO
  generalize widthOk width = wo at WD HO
  generalize wantOf kind = K at WT HO
  have hcs : wo = false ∨ (wo = true ∧ K = -2) ∨ (wo = true ∧ K ≠ -2 ∧ 0 ≤ K ∧ (args.length : Int) ≠ K) ∨ (wo = true ∧ K = -1 ∧ (args.length : Int) = 0) := by
    have := HO.out
    cases wo
    · exact .inl rfl
    · right
      rcases this with h | h | h | h
      · cases h
      · exact .inl ⟨rfl, h⟩
      · exact .inr (.inl ⟨rfl, by omega, h.1, h.2⟩)
      · exact .inr (.inr ⟨rfl, h.1, by omega⟩)
  clear HO
  rcases hcs with rfl | ⟨rfl, rfl⟩ | ⟨rfl, h1, h2, h3⟩ | ⟨rfl, rfl, h3⟩
  all_goals
    go_enter Try.func20, Try.ntmps20
    go_wp2_with (first | (go_at_call 18; refine (WD.out _).mono ?_; rintro e w' ⟨rfl, rfl⟩) | (go_at_call 30; refine (WT.out _).mono ?_; rintro e w' ⟨rfl, rfl⟩))
    go_ret
    exact ⟨rfl, ((Below.refl _ _).alloc (Nat.le_refl _) _).alloc (by simp) _⟩

end Go.Proofs.Ytfemaahmafndmaa
