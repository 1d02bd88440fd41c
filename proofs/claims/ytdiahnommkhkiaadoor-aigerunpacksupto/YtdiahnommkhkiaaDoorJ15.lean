import Derived.Test.YtdiahnommkhkiaaDoorJ14
import Derived.Laws.CopyOwn
namespace Go.Proofs.YtdiahnommkhkiaaDoor
open Go.RowKit

theorem grown_of_drew {a b : World} {row : Option Nat} (h : a.drew.grownBy b row) : a.grownBy b row := ⟨h.os, h.tape, h.output, h.size, h.block⟩
theorem grown_drew (a : World) (row : Option Nat) : a.grownBy a.drew row := ⟨rfl, rfl, rfl, Nat.le_refl _, fun _ _ _ => rfl⟩
theorem grown_setRow (w : World) (g : Nat) (cs : Array Value) : w.grownBy (w.setRow g cs) (some g) := ⟨rfl, rfl, rfl, by simp [World.setRow], fun k _ hk => setRow_other w g k cs (fun e => hk (by simp [e]))⟩
theorem run_copy_grown {P : Program} {w : World} (dT sT ty : TypeId) (elem : TypeId) (hu : P.underlying dT = some (.slice elem)) (hsz : (P.info? elem).map (·.size) = some 1)
    (dp sp : Option Addr) (dLen dCap sLen sCap : Nat) (g off : Nat) (cur : List Value) (t : TypeId) (hg : w.heap[g]? = some (.cells cur.toArray t (0, 0))) (cs : List Value) (hn : cs.length = Nat.min sLen dLen)
    (hpos : 0 < cs.length → dp = some ⟨g, off, none⟩ ∧ ∃ ad, sp = some ad ∧ ∀ j v, cs[j]? = some v → w.cell? (ad.add j) = some v)
    (hfit : off + cs.length ≤ cur.length) (h1 : ∀ v ∈ cs, v.oneCell' = true) :
    ∃ w', (Builtin.copy_ #[dT, sT] ty #[.slice dp dLen dCap, .slice sp sLen sCap]).run P w = .ok (goInt cs.length) w' ∧ w'.heap[g]? = some (.cells (splice cur off cs).toArray t (0, 0)) ∧ w.grownBy w' (some g) := by
  by_cases h0 : cs.length = 0
  · obtain rfl : cs = [] := List.eq_nil_of_length_eq_zero h0
    have hrun := run_copy_none (P := P) w dT sT ty elem dp sp dLen dCap sLen sCap hu hsz (by simpa using hn.symm)
    exact ⟨w, by simpa using hrun, by simpa [splice] using hg, grown_refl _ _⟩
  · obtain ⟨rfl, ad, rfl, hsrc⟩ := hpos (by omega)
    have hrun := run_copy_row (P := P) w dT sT ty elem g off dLen dCap ad sLen sCap cur.toArray t cs hu hsz hg hn hsrc (by simpa using hfit) h1
    exact ⟨_, hrun, by simpa [splice] using setRow_heap w g _ _ t _ hg, grown_setRow _ _ _⟩
theorem step_copy_grown {P : Program} {ops : Array Oper} {o : Oper} {a : Act} {w : World} {K : Act → World → Prop} {Q : Exit → Act → World → Prop} {E : Prop} (hgd : o.guard = none) (d s : Operand) (dT sT : TypeId)
    (ho : o.op = .call { callee := .builtin .copy, args := #[d, s], argTypes := #[dT, sT] }) (elem : TypeId) (hu : P.underlying dT = some (.slice elem)) (hsz : (P.info? elem).map (·.size) = some 1)
    (dp sp : Option Addr) (dLen dCap sLen sCap : Nat) (hd : a.eval d = .slice dp dLen dCap) (hs : a.eval s = .slice sp sLen sCap)
    (g off : Nat) (cur : List Value) (t : TypeId) (hg : w.heap[g]? = some (.cells cur.toArray t (0, 0))) (cs : List Value) (hn : cs.length = Nat.min sLen dLen)
    (hpos : 0 < cs.length → dp = some ⟨g, off, none⟩ ∧ ∃ ad, sp = some ad ∧ ∀ j v, cs[j]? = some v → w.cell? (ad.add j) = some v)
    (hfit : off + cs.length ≤ cur.length) (h1 : ∀ v ∈ cs, v.oneCell' = true)
    (h : ∀ w', Hid (w'.heap[g]? = some (.cells (splice cur off cs).toArray t (0, 0))) → w.grownBy w' (some g) → K (a.put o.dst (goInt cs.length)) w') :
    if Region.wanted o (yielded ops a.tmps) = true then Oper.wp P o a w K Q else E := by
  have hw : Region.wanted o (yielded ops a.tmps) = true := by simp [Region.wanted, hgd]
  rw [if_pos hw]
  obtain ⟨w', hrun, h2, h3⟩ := run_copy_grown (P := P) dT sT o.type elem hu hsz dp sp dLen dCap sLen sCap g off cur t hg cs hn hpos hfit h1
  unfold Oper.wp
  simp [execOp, ho, resolve, invoke, builtin, hd, hs, hrun, Result.andThen]
  exact h w' h2 h3
theorem int_size : (Tryd.prog.info? 3).map (·.size) = some 1 := by kernel_rfl
theorem RdAt.list {w : World} {r : Nat} {R : RdS} (h : RdAt w r R) : w.heap[r]? = some (.cells R.cells.toList.toArray 81 (0, 0)) := by
  rw [Array.toArray_toList]; exact h
/-- numbers of a head -/
def rightH (h : Int × Int × Int × Int × Int) : Prop := h.1 = h.2.1 + h.2.2.1 + h.2.2.2.2 ∧ h.1 < 60000 ∧ h.2.2.1 ≤ 6000 ∧ h.2.2.2.1 ≤ 60000
instance (h : Int × Int × Int × Int × Int) : Decidable (rightH h) := by unfold rightH; infer_instance
def smallH (h : Int × Int × Int × Int × Int) : Prop := (0 ≤ h.1 ∧ h.1 < 1000000000) ∧ (0 ≤ h.2.1 ∧ h.2.1 < 1000000000) ∧ (0 ≤ h.2.2.1 ∧ h.2.2.1 < 1000000000) ∧ (0 ≤ h.2.2.2.1 ∧ h.2.2.2.1 < 1000000000) ∧ (0 ≤ h.2.2.2.2 ∧ h.2.2.2.2 < 1000000000)
set_option maxRecDepth 100000 in
set_option maxHeartbeats 2000000 in
theorem isRight_any (b o : Nat) (h : Int × Int × Int × Int × Int) (w : World) (x : HdAt w b o h) (hs : smallH h) :
    Calls Tryd.prog 56 #[.pointer (some ⟨b, o, none⟩)] w fun e w' => e = .returned (.bool (decide (rightH h))) ∧ Below w.heap.size w w' := by
  have c0 : w.cell? ⟨b, o, none⟩ = some (.int .i64 h.1) := x.c0
  have c1 := x.c1
  have c2 := x.c2
  have c3 := x.c3
  have c4 := x.c4
  obtain ⟨p0, p1, p2, p3, p4⟩ := h
  unfold smallH at hs
  simp only at *
  obtain ⟨s0, s1, s2, s3, s4⟩ := hs
  have e1 : IntKind.i64.wrap (p1 + p2) = p1 + p2 := wrapI _ (by omega) (by omega)
  have e2 : IntKind.i64.wrap (p1 + p2 + p4) = p1 + p2 + p4 := wrapI _ (by omega) (by omega)
  obtain ⟨g, HG⟩ : ∃ g, Hid (decide (rightH (p0, p1, p2, p3, p4)) = g) := ⟨_, rfl⟩
  have HGT : Hid ((p0 = p1 + p2 + p4 ∧ p0 < 60000 ∧ p2 ≤ 6000 ∧ p3 ≤ 60000) → g = true) := fun hh => by rw [← HG.out]; simp only [decide_eq_true_eq]; exact hh
  have HGF : Hid (¬ (p0 = p1 + p2 + p4 ∧ p0 < 60000 ∧ p2 ≤ 6000 ∧ p3 ≤ 60000) → g = false) := fun hh => by rw [← HG.out]; simp only [decide_eq_false_iff_not]; exact hh
  rw [HG.out]
  clear x HG
  by_cases k0 : p0 = p1 + p2 + p4
  · have kb0 : (p0 == p1 + p2 + p4) = true := by simp [k0]
    by_cases k1 : p0 < 60000
    · have kb1 : decide (p0 < 60000) = true := by simp [k1]
      by_cases k2 : p2 ≤ 6000
      · have kb2 : decide (p2 ≤ 6000) = true := by simp [k2]
        by_cases k3 : p3 ≤ 60000
        · have kb3 : decide (p3 ≤ 60000) = true := by simp [k3]
          have hg := HGT.out ⟨k0, k1, k2, k3⟩
          subst hg
          clear HGT HGF k0
          try clear k1
          try clear k2
          try clear k3
          go_enter Tryd.func56, Tryd.ntmps56
          go_wp2_with fail
          go_quiet (fail)
          go_wp2
          go_ret
          exact ⟨by first | rfl | exact ret_bool (by assumption) | exact ret_bool (by simp; omega), Below.drewN (Below.refl _ _) _⟩
        · have kb3 : decide (p3 ≤ 60000) = false := by simp; omega
          have hg := HGF.out (fun hh => k3 hh.2.2.2)
          subst hg
          clear HGT HGF k0
          go_enter Tryd.func56, Tryd.ntmps56
          go_wp2_with fail
          go_quiet (fail)
          go_wp2
          go_ret
          exact ⟨by first | rfl | exact ret_bool (by assumption) | exact ret_bool (by simp; omega), Below.drewN (Below.refl _ _) _⟩
      · have kb2 : decide (p2 ≤ 6000) = false := by simp; omega
        have hg := HGF.out (fun hh => k2 hh.2.2.1)
        subst hg
        clear HGT HGF k0
        go_enter Tryd.func56, Tryd.ntmps56
        go_wp2_with fail
        go_quiet (fail)
        go_wp2
        go_ret
        exact ⟨by first | rfl | exact ret_bool (by assumption) | exact ret_bool (by simp; omega), Below.drewN (Below.refl _ _) _⟩
    · have kb1 : decide (p0 < 60000) = false := by simp; omega
      have hg := HGF.out (fun hh => k1 hh.2.1)
      subst hg
      clear HGT HGF k0
      go_enter Tryd.func56, Tryd.ntmps56
      go_wp2_with fail
      go_quiet (fail)
      go_wp2
      go_ret
      exact ⟨by first | rfl | exact ret_bool (by assumption) | exact ret_bool (by simp; omega), Below.drewN (Below.refl _ _) _⟩
  · have kb0 : (p0 == p1 + p2 + p4) = false := by simp [k0]
    have hg := HGF.out (fun hh => k0 hh.1)
    subst hg
    clear HGT HGF
    go_enter Tryd.func56, Tryd.ntmps56
    go_wp2_with fail
    go_quiet (fail)
    go_wp2
    go_ret
    exact ⟨by first | rfl | exact ret_bool (by assumption) | exact ret_bool (by simp; omega), Below.drewN (Below.refl _ _) _⟩
/-- a text's first line -/
def HeadLine (a : List UInt8) (h : Int × Int × Int × Int × Int) : Prop := (Lib.cut a [32]).1 = [97, 97, 103] ∧ (pcs 32 (Lib.cut a [32]).2.1).all numOk = true ∧ (pcs 32 (Lib.cut a [32]).2.1).map numV = [h.1, h.2.1, h.2.2.1, h.2.2.2.1, h.2.2.2.2] ∧ rightH h


end Go.Proofs.YtdiahnommkhkiaaDoor
