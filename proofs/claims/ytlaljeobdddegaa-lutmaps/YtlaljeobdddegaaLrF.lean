import Derived.Test.YtlaljeobdddegaaLrE
namespace Go.Proofs.Ytlaljeobdddegaa.L
open Go.RowKit

def tabsN (v : List Bool) (l : List TbD) : List Bool := l.foldl (fun v d => v ++ [tabV d v]) v
/-- what the signals are worth in a cycle -/
def cycT (N : NtD) (row st : List Bool) : List Bool := tabsN ([false, true] ++ inRow N.ins.toNat row ++ st) N.tabs
def outT (N : NtD) (v : List Bool) : List Bool := N.outs.map (sV v)
def nextT (N : NtD) (v : List Bool) : List Bool := N.next.map (sV v)
def stT (N : NtD) (st : List Bool) (tr : List (List Bool)) : List Bool := tr.foldl (fun st r => nextT N (cycT N r st)) st
def runT (N : NtD) : List (List Bool) → List Bool → List (List Bool)
  | [], _ => []
  | r :: t, st => outT N (cycT N r st) :: runT N t (nextT N (cycT N r st))
theorem runT_snoc (N : NtD) (l : List (List Bool)) (r : List Bool) (st : List Bool) : runT N (l ++ [r]) st = runT N l st ++ [outT N (cycT N r (stT N st l))] := by
  induction l generalizing st with
  | nil => rfl
  | cons a t ih => simp only [List.cons_append, runT, ih]; rfl
theorem stT_snoc (N : NtD) (l : List (List Bool)) (r : List Bool) (st : List Bool) : stT N st (l ++ [r]) = nextT N (cycT N r (stT N st l)) := by
  unfold stT; rw [List.foldl_append]; rfl
theorem tabs_snoc (v : List Bool) (l : List TbD) (d : TbD) : tabsN v (l ++ [d]) = tabsN v l ++ [tabV d (tabsN v l)] := by
  unfold tabsN; rw [List.foldl_append]; rfl
theorem tabs_length (v : List Bool) (l : List TbD) : (tabsN v l).length = v.length + l.length := by
  induction l generalizing v with
  | nil => rfl
  | cons a t ih => unfold tabsN at *; rw [List.foldl_cons, ih]; simp; omega
theorem stT_length (N : NtD) (tr : List (List Bool)) (st : List Bool) (h : st.length = N.init.length) (hn : N.next.length = N.init.length) : (stT N st tr).length = N.init.length := by
  induction tr generalizing st with
  | nil => exact h
  | cons a t ih => exact ih (nextT N (cycT N a st)) (by unfold nextT; rw [List.length_map]; exact hn)
theorem Far.symm {a b : Value} (h : Far a b) : Far b a := fun x hx e => h x e hx

theorem wpList_append_row {P : Program} (w : World) {ops : Array Oper} {rest : List Oper} {o : Oper} {a : Act} {Q : Exit → Act → World → Prop} (hgd : o.guard = none) (s x : Operand) (t : TypeId)
    (ho : o.op = .call { callee := .builtin .append, args := #[s, x], argTypes := #[t, t] })
    (base : Nat) (e : TypeId) (i : TypeInfo) (z : Value) (bytes : Nat) (ht : P.underlying t = some (.slice e)) (hi : P.info? e = some i) (hz : i.zero = some z)
    (hsize : i.size = 1) (hby : i.bytes = bytes) (hzs : z.cells.size = 1)
    (v : Value) (n : Nat) (xs : List Value) (hs : a.eval s = v) (hown : w.ownsRow base e 1 v n xs)
    (xa : Option Addr) (xc : Nat) (l : List Bool) (hx : a.eval x = .slice xa l.length xc) (B : Nat) (R : RowAt B w xa 1 (l.map boolC)) (hn : xa = none → xc = 0 ∧ l = [])
    (h63 : n + l.length ≤ maxLen) (hbytes : (n + l.length) * bytes ≤ 140737488355328) (hbase : base ≤ w.heap.size)
    (h : ∀ v' w', w'.ownsRow base e 1 v' (n + l.length) (xs ++ l.map bV) → w.grownBy w' v.ownBlock → wpList P ops Q rest (a.put o.dst v') w') :
    wpList P ops Q (o :: rest) a w := by
  cases xa with
  | none =>
    obtain ⟨rfl, rfl⟩ := hn rfl
    exact wpList_append_any w hgd s x t ho base e i z bytes ht hi hz hsize hby hzs v n xs hs hown (.slice none 0 0) [] hx (.inl ⟨rfl, rfl⟩) h63 hbytes hbase h
  | some ad =>
    refine wpList_append_own_at w hgd s x t ho base e i z 1 bytes ht hi hz hsize hby hzs (by decide) v n xs hs hown ad l.length xc (l.map bV) hx (by simp) ?_ ?_ h63 hbytes hbase ?_
    · intro j u hu
      rw [List.getElem?_map] at hu
      cases hl : l[j]? with
      | none => rw [hl] at hu; cases hu
      | some y =>
        rw [hl] at hu
        have e : Value.bool y = u := by simpa [bV] using hu
        subst e
        obtain ⟨b, o, ea, -, hc⟩ := rowB R hl
        cases ea
        have e2 : (⟨b, o, none⟩ : Addr).add j = ⟨b, o + j, none⟩ := by unfold Addr.add; split <;> simp_all
        rw [e2]; exact hc
    · intro u hu
      obtain ⟨y, _, rfl⟩ := List.mem_map.1 hu
      rfl
    · intro v' w' h1 h2 _ _
      exact h v' w' h1 h2

end Go.Proofs.Ytlaljeobdddegaa.L
