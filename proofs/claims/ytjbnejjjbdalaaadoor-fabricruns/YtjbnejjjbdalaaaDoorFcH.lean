import Derived.Test.YtjbnejjjbdalaaaDoorFcF
namespace Go.Proofs.YtjbnejjjbdalaaaDoor
open Go.RowKit

/-! What the document's reader takes (pure) -/
theorem all_mem {p q : Nat → Bool} {l : List Nat} (h : ∀ x, x ∈ l → p x = q x) : l.all p = l.all q := by
  induction l with
  | nil => rfl
  | cons a t ih => rw [List.all_cons, List.all_cons, h a (List.mem_cons_self ..), ih (fun x hx => h x (List.mem_cons_of_mem _ hx))]
theorem cnOk_spec {nm : Nat → Nat → Nat} {N : CnD} (h : SpecN nm N) (hok : (shS nm).ok = true) : CnOk N = selsOk nm := by
  have hsh := h.sh
  have hcl : N.cols.length = nm 64 16 := by
    have := congrArg List.length h.cols
    unfold colsS at this
    simpa using this
  have hcs : ∀ (k : Nat) (d : ClD), N.cols[k]? = some d → d.cs = colF nm (nm 48 16) (k0S nm) (k1S nm) k := by
    intro k d hd
    have e : (N.cols.map ClD.cs)[k]? = some d.cs := by rw [List.getElem?_map, hd]; rfl
    rw [h.cols] at e
    unfold colsS at e
    rw [List.getElem?_map] at e
    rcases Nat.lt_or_ge k (nm 64 16) with hk | hk
    · rw [List.getElem?_range hk] at e
      exact (Option.some.inj e).symm
    · rw [List.getElem?_eq_none (by simp; omega)] at e
      cases e
  have hrl : N.regs.length = nm 32 16 := by rw [h.regs]; simp [regsS]
  have hol : N.outs.length = nm 16 16 := by rw [h.outs]; simp [outsS]
  have hlens : N.lens = true := by
    unfold CnD.lens
    rw [hsh]
    unfold shS
    rw [hcl, hrl, hol]
    simp
  have hcolo : ((List.range N.cols.length).all (colOk N)) = ((List.range (nm 64 16)).all fun i => (colF nm (nm 48 16) (k0S nm) (k1S nm) i).all (CeD.ok ((shS nm).src i))) := by
    rw [hcl]
    refine all_mem (fun i hi => ?_)
    have hi' : i < N.cols.length := by rw [hcl]; simpa using hi
    obtain ⟨d, hd⟩ := getElem_lt hi'
    rw [colOk_of hd, hcs i d hd, hsh]
    have : ((colF nm (nm 48 16) (k0S nm) (k1S nm) i).length : Int) = (shS nm).rows := by
      unfold colF
      rw [clS_len]
      rfl
    rw [decide_eq_true this, Bool.true_and]
  have hsrc : (shS nm).src (-1) = ((2 + nm 48 16 : Nat) : Int) := by
    unfold ShD.src shS
    rw [if_neg (by omega)]
    simp
  unfold CnOk selsOk
  rw [hlens, hcolo, hsh, hok, hsrc, h.regs, h.outs]
  simp
theorem good_iff {bt X : List Nat} (hb : ∀ x, x ∈ markL ++ bt → x < 256) (p : Nat) (h : Enc X (32 + p) (fB bt)) : X = markL ++ bt ↔ endBad bt p false = false := by
  have hl : (markL ++ bt).length = bt.length + 4 := by rw [List.length_append]; show 4 + _ = _; omega
  have hz : ∀ q, bitN (markL ++ bt) (32 + q) = bitN bt q := fun q => bitN_app markL bt rfl q
  unfold endBad
  simp only [Bool.false_or, Bool.or_eq_false_iff, decide_eq_false_iff_not, Nat.not_lt, Nat.not_le, Decidable.not_not]
  constructor
  · intro e
    obtain ⟨h1, h2, h3⟩ := enc_left h e
    rw [hl] at h1 h2
    refine ⟨⟨by omega, by omega⟩, ?_⟩
    rw [numN_zero]
    intro i hi
    have := h3 (32 + (p + i)) (by omega)
    rw [hz] at this
    exact this
  · rintro ⟨⟨h1, h2⟩, h3⟩
    rw [numN_zero] at h3
    refine (enc_same hb h).2 (.inl ⟨by rw [hl]; omega, by rw [hl]; omega, fun q hq1 hq2 => ?_⟩)
    rw [hl] at hq2
    have := h3 (q - 32 - p) (by omega)
    rw [← hz, show 32 + (p + (q - 32 - p)) = q by omega] at this
    exact this
theorem endBad_wrong (bt : List Nat) (p : Nat) : endBad bt p true = true := by unfold endBad; simp
theorem endBad_over (bt : List Nat) (p : Nat) (b : Bool) (h : 8 * bt.length < p) : endBad bt p b = true := by unfold endBad; rw [decide_eq_true h]; simp

end Go.Proofs.YtjbnejjjbdalaaaDoor
