import Derived.Test.YtdiahnommkhkiaaDoorJ29
import Derived.Defers
import Derived.Recover
import Derived.Laws.Pointers
namespace Go.Proofs.YtdiahnommkhkiaaDoor
open Go.RowKit

def zeroG : GrD := ⟨0, [], [], []⟩
def zeroS : GrS := ⟨none, 0, none, 0, none, 0⟩
theorem zeroAt (B : Nat) (w : World) : GrAt B w zeroS zeroG := ⟨rowAt_nil, rowAt_nil, rowAt_nil, by unfold big; decide, by unfold big; decide, by unfold big; decide⟩
theorem catch_idle (p q : Addr) (w : World) :
    CallsD Tryd.prog 33 #[.pointer (some p), .pointer (some q)] .returning w fun e u' w' => e = .returned (.tuple #[]) ∧ u' = .returning ∧ w' = w := by
  refine callsD_of_wpS Tryd.func33 rfl fun c₀ cs hu => ?_
  apply wpS_seq
  apply wpS_region
  simp [wpOpsS, go_sem, recoverD, hu, Tryd.ntmps33, Exit.thenS]
  apply wpS_seq
  apply wpS_region
  simp [wpOpsS, go_sem, Exit.thenS, Act.eval, Array.replicate]
  refine wpS_cond (t := false) (by simp [Act.eval]) ?_
  simp only [Bool.false_eq_true, if_false]
  refine wpS_of_wp (wp_skip ?_)
  cases c₀
  simp_all [bodyPostS, results, Tryd.results33]
theorem set_heap {w : World} {b c : Nat} (v : Value) (h : b ≠ c) (o : Nat) : (w.setCell ⟨b, o, none⟩ v).heap[c]? = w.heap[c]? := Below.heap_setCell _ _ _ _ (fun e => h e.symm)
theorem set4_heap {w : World} {b t : Nat} {o0 o1 o2 o3 : Value} (h : w.heap[b]? = some (.cells #[o0, o1, o2, o3] t (0, 0))) (x0 x1 x2 x3 : Value) :
    ((((w.setCell ⟨b, 0, none⟩ x0).setCell ⟨b, 1, none⟩ x1).setCell ⟨b, 2, none⟩ x2).setCell ⟨b, 3, none⟩ x3).heap[b]? = some (.cells #[x0, x1, x2, x3] t (0, 0)) :=
  (set_self (set_self (set_self (set_self h)))).trans rfl
set_option maxRecDepth 100000 in
set_option maxHeartbeats 4000000 in
theorem catch_pan (p q fp : Nat) (o0 o1 o2 o3 o4 : Value) (w : World) (hv : Vars w) (h2 : 2 ≤ w.heap.size) (hp : w.heap[p]? = some (.cells #[o0, o1, o2, o3] 28 (0, 0))) (hq : w.heap[q]? = some (.cells #[o4] 34 (0, 0))) (hpq : p ≠ q) :
    CallsD Tryd.prog 33 #[.pointer (some ⟨p, 0, none⟩), .pointer (some ⟨q, 0, none⟩)] (.panicking [{ v := .iface 85 (.pointer (some ⟨fp, 0, none⟩)), recovered := false }]) w fun e u' w' => e = .returned (.tuple #[]) ∧ u' = .panicking [{ v := .iface 85 (.pointer (some ⟨fp, 0, none⟩)), recovered := true }] ∧
      w'.heap[p]? = some (.cells #[.int .i64 0, .slice none 0 0, .slice none 0 0, .slice none 0 0] 28 (0, 0)) ∧ w'.heap[q]? = some (.cells #[.iface 85 (.pointer (some ⟨fp, 0, none⟩))] 34 (0, 0)) ∧ ∃ W, Below w.heap.size w W ∧ w'.os = w.os ∧ w'.tape = w.tape ∧ w'.output = w.output ∧ w'.heap.size = W.heap.size ∧ ∀ k, k ≠ p → k ≠ q → w'.heap[k]? = W.heap[k]? := by
  have OF := hidden (of_any fp 16 w hv h2)
  have HP := hidden hp
  have HQ := hidden hq
  have hpl : p < w.heap.size := by
    rcases Nat.lt_or_ge p w.heap.size with h' | h'
    · exact h'
    · simp [Array.getElem?_eq_none h'] at hp
  have hql : q < w.heap.size := by
    rcases Nat.lt_or_ge q w.heap.size with h' | h'
    · exact h'
    · simp [Array.getElem?_eq_none h'] at hq
  clear hv hp hq
  refine callsD_of_wpS Tryd.func33 rfl fun c₀ cs hu => ?_
  apply wpS_seq
  apply wpS_region
  simp [wpOpsS, go_sem, recoverD, hu, Tryd.ntmps33, Exit.thenS]
  apply wpS_seq
  apply wpS_region
  simp [wpOpsS, go_sem, Exit.thenS, Act.eval, Array.replicate]
  refine wpS_cond (t := true) (by simp [Act.eval]) ?_
  simp only [if_true]
  refine wpS_of_wp ?_
  have HU := hidden hu
  clear hu
  go_wp2_with fail
  go_at_call 34
  refine OF.out.mono ?_
  rintro e W ⟨rfl, hb⟩
  have HPW := hidden ((hb.block p hpl).trans HP.out)
  have HQW := hidden ((hb.block q hql).trans HQ.out)
  have HB := hidden hb
  have p0 : W.cell? ⟨p, 0, none⟩ = some o0 := heap_cell HPW.out
  have p1 : W.cell? ⟨p, 1, none⟩ = some o1 := heap_cell HPW.out
  have p2 : W.cell? ⟨p, 2, none⟩ = some o2 := heap_cell HPW.out
  have p3 : W.cell? ⟨p, 3, none⟩ = some o3 := heap_cell HPW.out
  have q0 : W.cell? ⟨q, 0, none⟩ = some o4 := heap_cell HQW.out
  have f0 : ∀ j, W.frozen? ⟨p, j, none⟩ = false := fun j => heap_fz HPW.out j
  have g0 : ∀ j, W.frozen? ⟨q, j, none⟩ = false := fun j => heap_fz HQW.out j
  clear hb OF
  go_wp2
  refine ⟨rfl, _, rfl, .tuple #[], by simp [results, Tryd.results33, go_sem], rfl, rfl, ?_, ?_, W, HB.out, HB.out.os, HB.out.tape, HB.out.output, by simp [World.setCell], fun k hk1 hk2 => ?_⟩
  · rw [set_heap _ (Ne.symm hpq)]
    exact set4_heap HPW.out _ _ _ _
  · refine (set_self (w := (((W.setCell ⟨p, 0, none⟩ _).setCell ⟨p, 1, none⟩ _).setCell ⟨p, 2, none⟩ _).setCell ⟨p, 3, none⟩ _) (cs := #[o4]) ?_).trans rfl
    rw [set_heap _ hpq, set_heap _ hpq, set_heap _ hpq, set_heap _ hpq]
    exact HQW.out
  · rw [set_heap _ (Ne.symm hk2), set_heap _ (Ne.symm hk1), set_heap _ (Ne.symm hk1), set_heap _ (Ne.symm hk1), set_heap _ (Ne.symm hk1)]


end Go.Proofs.YtdiahnommkhkiaaDoor
