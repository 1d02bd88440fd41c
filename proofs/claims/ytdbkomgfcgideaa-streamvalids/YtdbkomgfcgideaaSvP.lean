import Derived.Test.YtdbkomgfcgideaaSvO
namespace Go.Proofs.Ytdbkomgfcgideaa
open Go.RowKit

theorem okP_inR (n c : Int) : okP n c = inR c n := by
  unfold okP inR
  by_cases a : 0 ≤ n <;> by_cases b : n < c <;> simp [a, b]
theorem okPs_flat {α : Type} (f : α → List (Int × Int)) (l : List α) : okPs (l.flatMap f) = l.all (fun x => okPs (f x)) := by
  unfold okPs; rw [List.all_flatMap]
theorem okPs_celP (n : Int) (d : CeD) : okPs (celP n d) = CeD.ok n d := by
  simp [okPs, celP, CeD.ok, okP_inR, Bool.and_assoc]
theorem okPs_regP (N : CnD) (d : RgD) : okPs (regP N d) = RgD.ok (N.sh.src (-1)) d := by
  have h : okP (if d.init then 1 else 0) 2 = true := by cases d.init <;> rfl
  unfold okPs regP RgD.ok
  simp only [List.all_cons, List.all_nil, Bool.and_true]
  rw [h, Bool.true_and, okP_inR]; rfl
theorem okPs_outL (N : CnD) : okPs (outL N) = N.outs.all (inR (N.sh.src (-1))) := by
  unfold okPs outL
  rw [List.all_map]
  congr 1
  funext x
  exact okP_inR x _
theorem okPs_shL (N : CnD) (h : N.sh.ok = true) : okPs (shL N) = true := by
  unfold ShD.ok wi at h
  simp only [Bool.and_eq_true, decide_eq_true_eq] at h
  simp [okPs, shL, okP]
  omega
theorem all_range {α : Type} (l : List α) (q : α → Bool) : l.all q = (List.range l.length).all (fun k => match l[k]? with | some d => q d | none => true) := by
  rw [Bool.eq_iff_iff, List.all_eq_true, List.all_eq_true]
  constructor
  · intro h k hk
    rw [List.mem_range] at hk
    rw [List.getElem?_eq_getElem hk]
    exact h _ (List.getElem_mem hk)
  · intro h x hx
    obtain ⟨k, hk, rfl⟩ := List.getElem_of_mem hx
    have := h k (List.mem_range.2 hk)
    rw [List.getElem?_eq_getElem hk] at this
    exact this
theorem all_and {α : Type} (l : List α) (p q : α → Bool) : l.all (fun x => p x && q x) = (l.all p && l.all q) := by
  induction l with
  | nil => rfl
  | cons a r ih =>
    simp only [List.all_cons, ih]
    cases p a <;> cases q a <;> cases r.all p <;> rfl
theorem cells_ok (N : CnD) : (List.range N.cols.length).all (colOk N) = (N.cols.all (fun d => decide ((d.cs.length : Int) = N.sh.rows)) && okPs (celL N)) := by
  rw [all_range N.cols, celL, okPs_flat, ← all_and]
  congr 1
  funext k
  unfold colOk colP
  cases N.cols[k]? with
  | none => rfl
  | some d =>
    simp only [okPs_flat, okPs_celP]
theorem vOk (N : CnD) (h : N.sh.ok = true) : CnOk N = (compOk N && okPs (fieldsL N)) := by
  unfold CnOk compOk fieldsL
  rw [h, okPs_app, okPs_app, okPs_app, okPs_shL N h, cells_ok, okPs_outL, regL, okPs_flat]
  simp only [okPs_regP]
  cases N.lens <;> cases N.cols.all (fun d => decide ((d.cs.length : Int) = N.sh.rows)) <;> simp

/-- the program's Valid -/
theorem valid_any (B : Nat) (w : World) (S : CnS) (N : CnD) (h : CnAt B w S N) (hB : B ≤ w.heap.size) :
    Calls Try.prog 4 #[.agg (S.cells N)] w fun e w' => e = .returned (.bool (CnOk N)) ∧ Below w.heap.size w w' := by
  cases hs : N.sh.ok
  · have e : CnOk N = false := by unfold CnOk; rw [hs]; rfl
    rw [e]; exact valid_shape B w S N hs h hB
  · rw [vOk N hs]
    cases hc : compOk N
    · exact valid_comp B w S N hs hc h hB
    · exact valid_rest B w S N hs hc h hB

end Go.Proofs.Ytdbkomgfcgideaa
