import Derived.Test.YtdiahnommkhkiaaDoorJ13
namespace Go.Proofs.YtdiahnommkhkiaaDoor
open Go.RowKit

/-- a gate's line -/
def AndLine (T : List UInt8) (n : Nat) (own : Int) (d : AndD) : Prop := nums T n = some [own, d.x, d.y] ∧ d.x < own ∧ d.y < own


end Go.Proofs.YtdiahnommkhkiaaDoor

namespace Go.Proofs.YtdiahnommkhkiaaDoor
open Go.RowKit

/-- a line that names an input, a latch or an output -/
def nameOk (l : List UInt8) : Bool := match l with
  | [] => false
  | c :: r => decide (0 ≤ Lib.indexByte [105, 108, 111] c) && numOk (Lib.cut r [32]).1 && !(Lib.cut r [32]).2.1.isEmpty
theorem cut_len (l : List UInt8) (c : UInt8) : (Lib.cut l [c]).1.length ≤ l.length ∧ (Lib.cut l [c]).2.1.length ≤ l.length := by
  rcases first_or c l with hf | ⟨a, b, ha, rfl⟩
  · rw [cut_free c l hf]; simp
  · rw [cut_cut c a b ha]; simp; omega
theorem bs_first (c : UInt8) (r : List UInt8) : (bs (c :: r)).extract 0 1 = ⟨#[c]⟩ := bs_piece (c :: r) 0 c rfl
theorem bs_tail (c : UInt8) (r : List UInt8) : (bs (c :: r)).extract 1 (r.length + 1) = bs r := by
  have := bs_drop (c :: r) 1
  rw [bs_size] at this
  simpa using this
set_option maxRecDepth 100000 in
set_option maxHeartbeats 2000000 in
theorem isName_any (l : List UInt8) (hl : l.length ≤ 1048576) (w : World) (hv : Vars w) :
    Calls Tryd.prog 62 #[.string (bs l)] w fun e w' => e = .returned (.bool (nameOk l)) ∧ Below w.heap.size w w' := by
  cases l with
  | nil =>
    have he := bs_empty []
    simp only [List.isEmpty_nil] at he
    generalize bs [] = s at *
    have HN : Hid (nameOk [] = false) := rfl
    rw [HN.out]
    go_enter Tryd.func62, Tryd.ntmps62
    go_wp2
    go_ret
    exact ⟨rfl, Below.refl _ _⟩
  | cons c r =>
    have he := bs_empty (c :: r)
    simp only [List.isEmpty_cons] at he
    have hz := bs_size (c :: r)
    simp only [List.length_cons] at hz hl
    have x1 := bs_first c r
    have x2 := bs_tail c r
    have CO := hidden (Tryd.strings_Contains_one ⟨#[105, 108, 111]⟩ c)
    have HV := hidden hv
    clear hv
    generalize bs (c :: r) = s at *
    obtain ⟨b1, HB1⟩ : ∃ b, Hid (decide (0 ≤ Lib.indexByte [105, 108, 111] c) = b) := ⟨_, rfl⟩
    obtain ⟨nm, HNM⟩ : ∃ x, Hid (nameOk (c :: r) = x) := ⟨_, rfl⟩
    have HNE : Hid (nm = (b1 && numOk (Lib.cut r [32]).1 && !(Lib.cut r [32]).2.1.isEmpty)) := by show _ = _; rw [← HNM.out, ← HB1.out]; rfl
    rw [HNM.out]
    have CO2 : Hid (∀ w, Calls Tryd.prog 72 #[.string ⟨#[105, 108, 111]⟩, .string ⟨#[c]⟩] w fun e w' => e = .returned (.bool b1) ∧ w' = w) := by rw [← HB1.out]; exact CO.out
    have hcl := cut_len r 32
    have CU := hidden (fun w' (hb : Below w.heap.size w w') => cut_any r 32 (by omega) w' ⟨(hb.cell (p := ⟨0, 0, none⟩) (World.block_lt_of_cell? w _ HV.out.et)).trans HV.out.et, by obtain ⟨m, hm⟩ := HV.out.ml; exact ⟨m, (hb.cell (p := ⟨1, 0, none⟩) (World.block_lt_of_cell? w _ hm)).trans hm⟩⟩)
    generalize (Lib.cut r [32]).1 = t1 at *
    generalize (Lib.cut r [32]).2.1 = t2 at *
    generalize (Lib.cut r [32]).2.2 = t3 at *
    have NU := hidden (isNumber_any t1 (by omega))
    have he2 := bs_empty t2
    have hrl : r.length ≤ 1048575 := by omega
    generalize hbr : bs r = sr at *
    generalize hrn : r.length = rn at *
    clear CO hl hcl hbr hrn
    go_enter Tryd.func62, Tryd.ntmps62
    go_wp2_with fail
    go_at_call 72
    refine (CO2.out _).mono ?_
    rintro e w1 ⟨rfl, rfl⟩
    cases b1
    · have hnf : nm = false := by rw [HNE.out]; rfl
      subst hnf
      go_wp2
      go_ret
      exact ⟨rfl, Below.refl _ _⟩
    · go_wp2_with fail
      go_at_call 51
      refine (CU.out _ (Below.refl _ _)).mono ?_
      rintro e w2 ⟨rfl, hb2⟩
      have HB2 := hidden hb2
      obtain ⟨b2, HB⟩ : ∃ b, Hid (numOk t1 = b) := ⟨_, rfl⟩
      rw [HB.out] at NU HNE
      clear hb2 CU
      generalize bs t1 = s1 at *
      go_wp2_with fail
      go_at_call 70
      refine (NU.out _).mono ?_
      rintro e w3 ⟨rfl, rfl⟩
      cases b2
      · have hnf : nm = false := by rw [HNE.out]; rfl
        subst hnf
        go_wp2
        go_ret
        exact ⟨rfl, HB2.out⟩
      · have hnf : nm = !t2.isEmpty := by rw [HNE.out]; rfl
        subst hnf
        go_wp2
        go_ret
        exact ⟨rfl, HB2.out⟩


end Go.Proofs.YtdiahnommkhkiaaDoor

namespace Go.Proofs.YtdiahnommkhkiaaDoor
open Go.RowKit

/-- what is behind the last line's end -/
def restOf (T : List UInt8) : List UInt8 := (sp 10 T).2
theorem text_len (T : List UInt8) : offs (linesOf T) (linesOf T).length + (restOf T).length = T.length := by
  unfold linesOf restOf
  induction T using snocInd with
  | nil => rfl
  | snoc l x ih =>
    rw [sp_snoc]
    split
    · simp only [List.length_append, List.length_cons, List.length_nil]
      rw [offs_next _ _ (sp 10 l).2 (by simp)]
      have e : offs ((sp 10 l).1 ++ [(sp 10 l).2]) (sp 10 l).1.length = offs (sp 10 l).1 (sp 10 l).1.length := by
        unfold offs; simp
      rw [e]; omega
    · simp only [List.length_append, List.length_cons, List.length_nil]; omega
theorem offs_lt {T : List UInt8} {n : Nat} (h : n < (linesOf T).length) : offs (linesOf T) n < T.length := by
  have := offs_len n T (by omega)
  omega
/-- lines behind the gates that are right and go on -/
def Names (T : List UInt8) (n m : Nat) : Prop := ∀ (j : Nat) (a : List UInt8), n ≤ j → j < m → (linesOf T)[j]? = some a → a ≠ [99] ∧ nameOk a = true
/-- what stands behind the gates is right -/
def BeOk (T : List UInt8) (n : Nat) : Prop := ∃ m, n ≤ m ∧ Names T n m ∧ ((linesOf T)[m]? = some [99] ∨ (m = (linesOf T).length ∧ restOf T = []))
/-- .. or not, from that line on -/
def BeBad (T : List UInt8) (n m : Nat) : Prop := n ≤ m ∧ Names T n m ∧ ((∃ a, (linesOf T)[m]? = some a ∧ a ≠ [99] ∧ nameOk a = false) ∨ (m = (linesOf T).length ∧ restOf T ≠ []))


end Go.Proofs.YtdiahnommkhkiaaDoor
