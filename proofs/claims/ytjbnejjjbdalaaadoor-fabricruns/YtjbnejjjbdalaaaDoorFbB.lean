import Derived.Test.YtjbnejjjbdalaaaDoorFbA
namespace Go.Proofs.YtjbnejjjbdalaaaDoor
open Go.RowKit

/-- a configuration that the bits tell, and that the loader takes, in numbers -/
structure FitN (N : CnD) (ni nr nw : Nat) : Prop where
  ins : N.sh.ins = (ni : Int)
  regs : N.sh.regs = (nr : Int)
  rows : N.sh.rows = (nw : Int)
  b0 : ni ≤ 500
  b1 : nr ≤ 500
  b2 : 1 ≤ nw ∧ nw ≤ 500
  nc : 1 ≤ N.cols.length
  rl : N.regs.length = nr
  ol : N.outs.length ≤ 500
  cl : ∀ d, d ∈ N.cols → 2 + d.cs.length = 2 + nw
  ok : ∀ (k : Nat) (d : ClD), N.cols[k]? = some d → ∀ e, e ∈ d.cs → (0 ≤ e.s0 ∧ 0 ≤ e.s1 ∧ 0 ≤ e.s2 ∧ 0 ≤ e.s3) ∧ (e.s0 < (if k = 0 then 2 + ni + nr else 2 + nw : Nat) ∧ e.s1 < (if k = 0 then 2 + ni + nr else 2 + nw : Nat) ∧ e.s2 < (if k = 0 then 2 + ni + nr else 2 + nw : Nat) ∧ e.s3 < (if k = 0 then 2 + ni + nr else 2 + nw : Nat))
  rg : ∀ d, d ∈ N.regs → 0 ≤ d.sel ∧ d.sel < ((2 + nw : Nat) : Int)
  ou : ∀ s, s ∈ N.outs → 0 ≤ s ∧ s < ((2 + nw : Nat) : Int)

theorem inR_iff {n l : Int} (h : inR n l = true) : 0 ≤ l ∧ l < n := by unfold inR at h; simpa using h
theorem wi_iff {n a b : Int} (h : wi n a b = true) : a ≤ n ∧ n ≤ b := by unfold wi at h; simpa using h

theorem spec_fit {nm : Nat → Nat → Nat} {N : CnD} (h : SpecN nm N) (hs : (shS nm).ok = true) (ho : selsOk nm = true) : FitN N (nm 0 16) (nm 32 16) (nm 48 16) := by
  have hsh : N.sh = ⟨(nm 0 16 : Nat), (nm 16 16 : Nat), (nm 32 16 : Nat), (nm 48 16 : Nat), (nm 64 16 : Nat)⟩ := h.sh
  unfold ShD.ok at hs
  simp only [Bool.and_eq_true] at hs
  obtain ⟨⟨⟨⟨a1, a2⟩, a3⟩, a4⟩, a5⟩ := hs
  have b1 := wi_iff a1
  have b2 := wi_iff a2
  have b3 := wi_iff a3
  have b4 := wi_iff a4
  have b5 := wi_iff a5
  unfold shS at b1 b2 b3 b4 b5
  dsimp only at b1 b2 b3 b4 b5
  unfold selsOk at ho
  simp only [Bool.and_eq_true, List.all_eq_true] at ho
  obtain ⟨⟨o1, o2⟩, o3⟩ := ho
  have hcs : ∀ (k : Nat) (d : ClD), N.cols[k]? = some d → k < nm 64 16 ∧ d.cs = colF nm (nm 48 16) (k0S nm) (k1S nm) k := by
    intro k d hd
    have e : (N.cols.map ClD.cs)[k]? = some d.cs := by rw [List.getElem?_map, hd]; rfl
    rw [h.cols] at e
    unfold colsS at e
    rw [List.getElem?_map] at e
    rcases Nat.lt_or_ge k (nm 64 16) with hk | hk
    · rw [List.getElem?_range hk] at e
      exact ⟨hk, (Option.some.inj e).symm⟩
    · rw [List.getElem?_eq_none (by simp; omega)] at e
      cases e
  have hcl : N.cols.length = nm 64 16 := by
    have := congrArg List.length h.cols
    unfold colsS at this
    simpa using this
  refine ⟨by rw [hsh], by rw [hsh], by rw [hsh], by omega, by omega, by omega, by omega, ?_, ?_, ?_, ?_, ?_, ?_⟩
  · rw [h.regs]; simp [regsS]
  · rw [h.outs]; simp [outsS]; omega
  · intro d hd
    obtain ⟨k, hk⟩ := List.getElem?_of_mem hd
    rw [(hcs k d hk).2]
    unfold colF
    rw [clS_len]
  · intro k d hd e he
    obtain ⟨hk, hd'⟩ := hcs k d hd
    rw [hd'] at he
    have ho := o1 k (by simpa using hk) e he
    unfold CeD.ok at ho
    simp only [Bool.and_eq_true] at ho
    obtain ⟨⟨⟨⟨_, p0⟩, p1⟩, p2⟩, p3⟩ := ho
    have p0 := inR_iff p0
    have p1 := inR_iff p1
    have p2 := inR_iff p2
    have p3 := inR_iff p3
    have hsrc : (shS nm).src (k : Int) = ((if k = 0 then 2 + nm 0 16 + nm 32 16 else 2 + nm 48 16 : Nat) : Int) := by
      unfold ShD.src shS
      by_cases hk0 : k = 0
      · subst hk0; simp
      · rw [if_neg (by omega), if_neg hk0]; simp
    rw [hsrc] at p0 p1 p2 p3
    exact ⟨⟨p0.1, p1.1, p2.1, p3.1⟩, p0.2, p1.2, p2.2, p3.2⟩
  · intro d hd
    rw [h.regs] at hd
    exact inR_iff (o2 d hd)
  · intro s hs'
    rw [h.outs] at hs'
    exact inR_iff (o3 s hs')
theorem gOk_fit {bs : List Nat} {N : CnD} (hg : gOk bs = true) (h : SpecN (numN (bitL bs)) N) : FitN N (numN (bitL bs) 0 16) (numN (bitL bs) 32 16) (numN (bitL bs) 48 16) := by
  unfold gOk at hg
  simp only [Bool.and_eq_true] at hg
  refine spec_fit h hg.1.2 ?_
  have h2 := hg.2
  cases hs : selsOk (numN (bitL bs)) with
  | true => rfl
  | false => rw [hs] at h2; unfold endBad at h2; simp at h2
theorem cyc_cols (N : CnD) (ni : Nat) (hni : N.sh.ins = (ni : Int)) (row st : List Bool) : colsC ([false, true] ++ (inC ni row ++ st)) N.cols = cycC N row st := by
  unfold colsC cycC
  rw [hni, Int.toNat_natCast, List.append_assoc]

end Go.Proofs.YtjbnejjjbdalaaaDoor
