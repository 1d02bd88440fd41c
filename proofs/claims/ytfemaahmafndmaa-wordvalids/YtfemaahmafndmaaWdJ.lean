import Derived.Test.YtfemaahmafndmaaWdH
import Derived.Test.YtfemaahmafndmaaWdI
import Derived.Deep.Cut
namespace Go.Proofs.Ytfemaahmafndmaa
open Go.RowKit

theorem nodeValid_any (B : Nat) (w : World) (S : NetS) (N : NetD) (h : NetAt B w S N) (hB : B ≤ w.heap.size) (i : Nat) (d : NodeD) (hd : N.nodes[i]? = some d) (hp : Hid (∀ j y, j < i → N.nodes[j]? = some y → 1 ≤ y.width ∧ y.width ≤ 32)) :
    Calls Try.prog 20 #[.agg (S.cells N), .int .i64 i] w fun e w' => e = .returned (.bool (nodeOk N i d)) ∧ Below w.heap.size w w' := by
  by_cases ho : nodeOut d
  · have e : nodeOk N i d = false := by unfold nodeOk; rw [if_pos ho]
    rw [e]; exact nodeValid_early B w S N h hB i d hd ho
  · have e : nodeOk N i d = (if d.args.any (badArg i) then false else nodeEnd N d) := by unfold nodeOk; rw [if_neg ho]
    by_cases hA : 0 ≤ wantOf d.kind
    · exact nodeValid_restA B w S N h hB i d hd ho hp hA _ e
    · exact nodeValid_restB B w S N h hB i d hd ho hp (by omega) _ e

def maskN (x : Int) : Int := ((2 ^ x.toNat : Nat) : Int) - 1
def regOk (r : RegD) : Bool := widthOk r.width && decide (r.init ≤ maskN r.width)
def memOk (m : MemD) : Bool := widthOk m.width && decide (1 ≤ m.words ∧ m.words ≤ 256)
def okAt (N : NetD) (i : Nat) : Bool := match N.nodes[i]? with | some d => nodeOk N i d | none => true
def nextOk (N : NetD) (r : RegD) : Bool := wideOf N r.next r.width
def memW (N : NetD) (m : Int) : Int := (N.mems[m.toNat]?.map MemD.width).getD 0
def wrOk (N : NetD) (x : WrD) : Bool := decide (0 ≤ x.mem ∧ x.mem < (N.mems.length : Int) ∧ 0 ≤ x.addr ∧ x.addr < (N.nodes.length : Int)) && wideOf N x.when_ 1 && wideOf N x.data (memW N x.mem)
def outOk (N : NetD) (x : Int) : Bool := decide (0 ≤ x ∧ x < (N.nodes.length : Int))
def NetOk (N : NetD) : Bool := N.ins.all widthOk && N.regs.all regOk && N.mems.all memOk && (List.range N.nodes.length).all (okAt N) && N.regs.all (nextOk N) && N.wrs.all (wrOk N) && N.outs.all (outOk N)

theorem all_next {α : Type} (p : α → Bool) (l : List α) (k : Nat) (x : α) (h : l[k]? = some x) : (l.take (k + 1)).all p = ((l.take k).all p && p x) := by
  rw [take_next l k x h, List.all_append]; simp
theorem range_next (p : Nat → Bool) (k : Nat) : (List.range (k + 1)).all p = ((List.range k).all p && p k) := by
  rw [List.range_succ, List.all_append]; simp
theorem at0_of {l : List Int} {k : Nat} (h : k < l.length) : l[k]? = some (at0 l k) := by simp [at0, List.getElem?_eq_getElem h]

end Go.Proofs.Ytfemaahmafndmaa
