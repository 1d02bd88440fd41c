import Derived.Test.YtlkhmcajedjojaaJ18
import Derived.Test.YtlkhmcajedjojaaJ19
import Derived.Test.YtlkhmcajedjojaaJ20
import Derived.Test.YtlkhmcajedjojaaJ21
import Derived.Test.YtlkhmcajedjojaaJ15
import Derived.Test.YtlkhmcajedjojaaJ05
import Derived.Deep.AppendLies
import Derived.Deep.RegionHeldLaw
namespace Go.Proofs.Ytlkhmcajedjojaa
open Go.RowKit

theorem wsOf_length (N : NetD) (l : List Int) : (wsOf N l).length = l.length := by simp [wsOf]
theorem lenOf {d : NodeD} (ho : ¬ nodeOut d) {n : Int} (hn : wantOf d.kind = n) (h0 : 0 ≤ n) : (d.args.length : Int) = n := by
  rcases Int.lt_or_gt_of_ne (a := (d.args.length : Int)) (b := n) |> fun f => Classical.em ((d.args.length : Int) = n) with h | h
  · exact h
  · exact absurd (.inr (.inr (.inl ⟨by omega, by rw [hn]; exact h⟩))) ho
theorem widthOf {d : NodeD} (ho : ¬ nodeOut d) : widthOk d.width = true := by
  cases h : widthOk d.width with
  | true => rfl
  | false => exact absurd (.inl h) ho

theorem numFits_any (B : Nat) (w : World) (cb : Nat) (S : NetS) (N : NetD) (h : CkAt B w cb S N) (hB : B ≤ w.heap.size) (nb no : Nat) (d : NodeD) (hd : NdAt B w N nb no d) (ho : ¬ nodeOut d) (hin : ∀ a, a ∈ d.args → 0 ≤ a ∧ a < (N.nodes.length : Int)) (hws : ∀ x, x ∈ wsOf N d.args → 1 ≤ x ∧ x ≤ 32) :
    Calls Try.prog 26 #[ckV cb, .pointer (some ⟨nb, no, none⟩)] w fun e w' => e = .returned (.bool (numOf N d)) ∧ Below w.heap.size w w' := by
  have hw := widthOf ho
  by_cases h1 : d.kind = 1
  · have e : numOf N d = decide (d.num ≤ maskN d.width) := by unfold numOf; rw [if_pos h1]
    rw [e]; exact nf_num B w cb S N h hB nb no d hd h1 hw
  · by_cases h5 : d.kind = 5
    · have e : numOf N d = decide (d.width ≤ at0 (wsOf N d.args) 0 ∧ d.num ≤ at0 (wsOf N d.args) 0 - d.width) := by unfold numOf; rw [if_neg h1, if_pos h5]
      have hl := lenOf ho (n := 1) (by rw [h5]; rfl) (by decide)
      have hl' : 0 < d.args.length := by omega
      rw [e]; exact nf_slice B w cb S N h hB nb no d hd h5 hw (by omega) (hin _ (List.mem_of_getElem? (at0_of hl'))) (hws _ (List.mem_of_getElem? (at0_of (by rw [wsOf_length]; exact hl'))))
    · by_cases h30 : d.kind = 30
      · have e : numOf N d = decide (d.num < (N.ins.length : Int) ∧ at0 N.ins d.num.toNat = d.width) := by unfold numOf; rw [if_neg h1, if_neg h5, if_pos h30]
        rw [e]; exact nf_in B w cb S N h hB nb no d hd h30
      · by_cases h31 : d.kind = 31
        · have e : numOf N d = decide (d.num < (N.regs.length : Int) ∧ ((N.regs[d.num.toNat]?.map RegD.width).getD 0) = d.width) := by unfold numOf; rw [if_neg h1, if_neg h5, if_neg h30, if_pos h31]
          rw [e]; exact nf_reg B w cb S N h hB nb no d hd h31
        · by_cases h32 : d.kind = 32
          · have e : numOf N d = decide (d.num < (N.mems.length : Int) ∧ ((N.mems[d.num.toNat]?.map MemD.width).getD 0) = d.width) := by unfold numOf; rw [if_neg h1, if_neg h5, if_neg h30, if_neg h31, if_pos h32]
            rw [e]; exact nf_mem B w cb S N h hB nb no d hd h32
          · have e : numOf N d = decide (d.num = 0) := by unfold numOf; rw [if_neg h1, if_neg h5, if_neg h30, if_neg h31, if_neg h32]
            rw [e]; exact nf_other B w cb S N h hB nb no d hd ⟨h1, h5, h30, h31, h32⟩

theorem widthsFit_any (B : Nat) (w : World) (cb : Nat) (S : NetS) (N : NetD) (h : CkAt B w cb S N) (hB : B ≤ w.heap.size) (nb no : Nat) (d : NodeD) (hd : NdAt B w N nb no d) (ho : ¬ nodeOut d) (hin : ∀ a, a ∈ d.args → 0 ≤ a ∧ a < (N.nodes.length : Int)) (hws : ∀ x, x ∈ wsOf N d.args → 1 ≤ x ∧ x ≤ 32) :
    Calls Try.prog 27 #[ckV cb, .pointer (some ⟨nb, no, none⟩)] w fun e w' => e = .returned (.bool (fitW d.kind d.width (wsOf N d.args))) ∧ Below w.heap.size w w' := by
  by_cases k1 : d.kind = 8 ∨ d.kind = 18 ∨ d.kind = 19
  · have e : fitW d.kind d.width (wsOf N d.args) = decide (at0 (wsOf N d.args) 0 = d.width) := by unfold fitW; rw [if_pos k1]
    have hl : 0 < d.args.length := by
      rcases k1 with k | k | k
      · have := lenOf ho (n := 1) (by rw [k]; rfl) (by decide); omega
      · have := lenOf ho (n := 2) (by rw [k]; rfl) (by decide); omega
      · have := lenOf ho (n := 2) (by rw [k]; rfl) (by decide); omega
    rw [e]; exact wf_one B w cb S N h hB nb no d hd hin k1 hl
  · by_cases k2 : 12 ≤ d.kind ∧ d.kind ≤ 17
    · have e : fitW d.kind d.width (wsOf N d.args) = decide (at0 (wsOf N d.args) 0 = d.width ∧ at0 (wsOf N d.args) 1 = d.width) := by unfold fitW; rw [if_neg k1, if_pos k2]
      have kk : d.kind = 12 ∨ d.kind = 13 ∨ d.kind = 14 ∨ d.kind = 15 ∨ d.kind = 16 ∨ d.kind = 17 := by omega
      have hl : 1 < d.args.length := by
        have := lenOf ho (n := 2) (by rcases kk with k | k | k | k | k | k <;> rw [k] <;> rfl) (by decide)
        omega
      rw [e]; exact wf_two B w cb S N h hB nb no d hd hin kk hl
    · by_cases k3 : 9 ≤ d.kind ∧ d.kind ≤ 11
      · have e : fitW d.kind d.width (wsOf N d.args) = decide (d.width = 1) := by unfold fitW; rw [if_neg k1, if_neg k2, if_pos k3]
        rw [e]; exact wf_width B w cb S N h hB nb no d hd (by omega)
      · by_cases k4 : d.kind = 20 ∨ d.kind = 21
        · have e : fitW d.kind d.width (wsOf N d.args) = decide (d.width = 1 ∧ at0 (wsOf N d.args) 0 = at0 (wsOf N d.args) 1) := by unfold fitW; rw [if_neg k1, if_neg k2, if_neg k3, if_pos k4]
          have hl : 1 < d.args.length := by
            have := lenOf ho (n := 2) (by rcases k4 with k | k <;> rw [k] <;> rfl) (by decide)
            omega
          rw [e]
          by_cases hw1 : d.width = 1
          · exact wf_same1 B w cb S N h hB nb no d hd hin k4 hw1 hl
          · rw [decide_eq_false (fun hh => hw1 hh.1)]
            exact wf_same0 B w cb S N h hB nb no d hd k4 hw1
        · by_cases k5 : d.kind = 22
          · have e : fitW d.kind d.width (wsOf N d.args) = decide (at0 (wsOf N d.args) 0 = 1 ∧ at0 (wsOf N d.args) 1 = d.width ∧ at0 (wsOf N d.args) 2 = d.width) := by unfold fitW; rw [if_neg k1, if_neg k2, if_neg k3, if_neg k4, if_pos k5]
            have hl := lenOf ho (n := 3) (by rw [k5]; rfl) (by decide)
            rw [e]; exact wf_if B w cb S N h hB nb no d hd hin k5 (by omega)
          · by_cases k6 : d.kind = 7
            · have e : fitW d.kind d.width (wsOf N d.args) = decide ((wsOf N d.args).sum = d.width) := by unfold fitW; rw [if_neg k1, if_neg k2, if_neg k3, if_neg k4, if_neg k5, if_pos k6]
              rw [e]; exact wf_cat B w cb S N h hB nb no d hd hin k6 hws
            · have e : fitW d.kind d.width (wsOf N d.args) = true := by unfold fitW; rw [if_neg k1, if_neg k2, if_neg k3, if_neg k4, if_neg k5, if_neg k6]
              rw [e]; exact wf_other B w cb S N h hB nb no d hd ⟨by omega, by omega, by omega, by omega, by omega, by omega, by omega, by omega, by omega, by omega, by omega, by omega, by omega, by omega, by omega, by omega⟩

theorem nodeEnd_eq (N : NetD) (d : NodeD) (hw : widthOk d.width = true) (h0 : 0 ≤ d.num) : nodeEnd N d = (numOf N d && fitW d.kind d.width (wsOf N d.args)) := by
  have hw' : 1 ≤ d.width ∧ d.width ≤ 32 := by simpa [widthOk] using hw
  obtain ⟨kind, width, num, args, aa, ac⟩ := d
  simp only at *
  generalize hx : wsOf N args = ws
  rcases want_cases kind with hk | hk
  · rcases hk with rfl | rfl | rfl | rfl | rfl | rfl | rfl | rfl | rfl | rfl | rfl | rfl | rfl | rfl | rfl | rfl | rfl | rfl | rfl | rfl | rfl | rfl
    all_goals
      simp only [nodeEnd, numOf, fitsOf, fitW, maskN, hx]
      simp
    all_goals (first | done | rfl | (rw [Bool.eq_iff_iff]; simp; omega) | (rw [Bool.eq_iff_iff]; simp))
  · obtain ⟨h1, h2, h3, h4, h5, h6, h7, h8, h9, h10, h11, h12, h13, h14, h15, h16, h17, h18, h19, h20, h21, h22⟩ := hk
    have e2 : fitW kind width ws = true := by unfold fitW; rw [if_neg (by omega), if_neg (by omega), if_neg (by omega), if_neg (by omega), if_neg (by omega), if_neg (by omega)]
    have e3 : fitsOf kind width num ws = true := by unfold fitsOf; rw [if_neg (by omega), if_neg (by omega), if_neg (by omega), if_neg (by omega), if_neg (by omega), if_neg (by omega), if_neg (by omega), if_neg (by omega), if_neg (by omega)]
    simp only [nodeEnd, numOf, hx]
    rw [e2, e3, if_neg h2, if_neg h3, if_neg h10, if_neg (by omega), if_neg h1, if_neg h4, if_neg h2, if_neg h3, if_neg h10]
    simp

end Go.Proofs.Ytlkhmcajedjojaa

namespace Go.Proofs.Ytlkhmcajedjojaa
open Go.RowKit

def vAt (vs : List Nat) (a : Int) : Nat := (vs[a.toNat]?).getD 0
/-- what a node's operands are worth, and how wide they are -/
def pairsOf (N : NetD) (vs : List Nat) (l : List Int) : List (Nat × Nat) := l.map fun a => (vAt vs a, (widthAt N a).toNat)
/-- what a node is worth, where those ahead of it are worth so much -/
def nodeVal (N : NetD) (row regs : List Nat) (mems : List (List Nat)) (vs : List Nat) (d : NodeD) : Nat :=
  if d.kind = 30 then (if d.num < (row.length : Int) then (row[d.num.toNat]?).getD 0 % 2 ^ d.width.toNat else 0)
  else if d.kind = 31 then (regs[d.num.toNat]?).getD 0
  else if d.kind = 32 then (((mems[d.num.toNat]?).getD [])[vAt vs (at0 d.args 0)]?).getD 0
  else opN d.kind d.width.toNat d.num.toNat (pairsOf N vs d.args)
def evalN (N : NetD) (row regs : List Nat) (mems : List (List Nat)) : Nat → List Nat
  | 0 => []
  | i + 1 => evalN N row regs mems i ++ [match N.nodes[i]? with | some d => nodeVal N row regs mems (evalN N row regs mems i) d | none => 0]
theorem eval_length (N : NetD) (row regs : List Nat) (mems : List (List Nat)) (i : Nat) : (evalN N row regs mems i).length = i := by
  induction i with
  | zero => rfl
  | succ i ih => simp [evalN, ih]
theorem eval_stays (N : NetD) (row regs : List Nat) (mems : List (List Nat)) (i j : Nat) (h : j < i) : (evalN N row regs mems (i + 1))[j]? = (evalN N row regs mems i)[j]? := by
  show (evalN N row regs mems i ++ _)[j]? = _
  rw [List.getElem?_append_left (by rw [eval_length]; exact h)]
theorem eval_next (N : NetD) (row regs : List Nat) (mems : List (List Nat)) (i : Nat) (d : NodeD) (h : N.nodes[i]? = some d) : evalN N row regs mems (i + 1) = evalN N row regs mems i ++ [nodeVal N row regs mems (evalN N row regs mems i) d] := by
  show evalN N row regs mems i ++ _ = _
  rw [h]

/-- registers and memories as they may be -/
structure StOk (N : NetD) (regs : List Nat) (mems : List (List Nat)) : Prop where
  rl : regs.length = N.regs.length
  rr : ∀ (i : Nat) (x : Nat) (z : RegD), regs[i]? = some x → N.regs[i]? = some z → x < 2 ^ z.width.toNat
  ml : mems.length = N.mems.length
  mm : ∀ (i : Nat) (l : List Nat) (z : MemD), mems[i]? = some l → N.mems[i]? = some z → l.length = z.words.toNat ∧ ∀ x, x ∈ l → x < 2 ^ z.width.toNat
/-- what is worth fits -/
def VsOk (N : NetD) (vs : List Nat) : Prop := ∀ (j x : Nat) (d : NodeD), vs[j]? = some x → N.nodes[j]? = some d → x < 2 ^ d.width.toNat

theorem ok_node {N : NetD} (h : NetOk N = true) {i : Nat} {d : NodeD} (hd : N.nodes[i]? = some d) : nodeOk N i d = true := by
  unfold NetOk at h
  simp only [Bool.and_eq_true] at h
  have := List.all_eq_true.1 h.1.1.1.2 i (List.mem_range.2 (List.getElem?_eq_some_iff.1 hd).1)
  unfold okAt at this
  rw [hd] at this
  exact this
theorem ok_parts {N : NetD} {i : Nat} {d : NodeD} (h : nodeOk N i d = true) : ¬ nodeOut d ∧ (∀ a, a ∈ d.args → 0 ≤ a ∧ a < (i : Int)) ∧ nodeEnd N d = true := by
  unfold nodeOk at h
  by_cases ho : nodeOut d
  · rw [if_pos ho] at h; cases h
  · rw [if_neg ho] at h
    by_cases hb : d.args.any (badArg i) = true
    · rw [if_pos hb] at h; cases h
    · rw [if_neg hb] at h
      refine ⟨ho, fun a ha => ?_, h⟩
      have := List.any_eq_false.1 (Bool.eq_false_iff.2 hb) a ha
      unfold badArg at this
      simp at this
      omega
theorem width_range {d : NodeD} (ho : ¬ nodeOut d) : 1 ≤ d.width ∧ d.width ≤ 32 := by
  have := widthOf ho
  simpa [widthOk] using this

/-- a valid node's operation may be -/
theorem opok_of {B : Nat} {w : World} {S : NetS} {N : NetD} (hat : NetAt B w S N) (h : NetOk N = true) {i : Nat} {d : NodeD} (hd : N.nodes[i]? = some d) (vs : List Nat) (hl : i ≤ vs.length) (hv : VsOk N vs) (hk : d.kind ≠ 30 ∧ d.kind ≠ 31 ∧ d.kind ≠ 32) :
    OpOk d.kind d.width.toNat d.num.toNat (pairsOf N vs d.args) := by
  obtain ⟨ho, hin, he⟩ := ok_parts (ok_node h hd)
  have hw := width_range ho
  have hna := hat.na d (List.mem_of_getElem? hd)
  have hlt : i < N.nodes.length := (List.getElem?_eq_some_iff.1 hd).1
  have ew : wsI (pairsOf N vs d.args) = wsOf N d.args := by
    unfold wsI pairsOf wsOf
    rw [List.map_map]
    apply List.map_congr_left
    intro a ha
    have hr := hin a ha
    obtain ⟨y, hy⟩ : ∃ y, N.nodes[a.toNat]? = some y := ⟨N.nodes[a.toNat]'(by omega), List.getElem?_eq_getElem (by omega)⟩
    have hyw := width_range (ok_parts (ok_node h hy)).1
    have e : widthAt N a = y.width := by unfold widthAt; rw [hy]; rfl
    show ((widthAt N a).toNat : Int) = widthAt N a
    rw [e]; omega
  have wc := want_cases d.kind
  have hwant : wantOf d.kind ≠ -2 := fun e => ho (.inr (.inl e))
  refine ⟨by omega, by omega, by omega, ?_, ?_, ?_, ?_, ?_, ?_⟩
  · intro p hp
    obtain ⟨a, ha, rfl⟩ := List.mem_map.1 hp
    have hr := hin a ha
    obtain ⟨y, hy⟩ : ∃ y, N.nodes[a.toNat]? = some y := ⟨N.nodes[a.toNat]'(by omega), List.getElem?_eq_getElem (by omega)⟩
    have hyw := width_range (ok_parts (ok_node h hy)).1
    have e : widthAt N a = y.width := by unfold widthAt; rw [hy]; rfl
    obtain ⟨x, hx⟩ : ∃ x, vs[a.toNat]? = some x := ⟨vs[a.toNat]'(by omega), List.getElem?_eq_getElem (by omega)⟩
    have ex : vAt vs a = x := by unfold vAt; rw [hx]; rfl
    simp only [e, ex]
    exact ⟨hv _ x y hx hy, by omega, by omega⟩
  · intro h0
    have : (pairsOf N vs d.args).length = d.args.length := by simp [pairsOf]
    rw [this]
    exact lenOf ho rfl h0
  · have : (pairsOf N vs d.args).length = d.args.length := by simp [pairsOf]
    rw [this]; exact hna.2.2.2
  · intro h7 hn
    have : d.args = [] := List.map_eq_nil_iff.1 hn
    exact ho (.inr (.inr (.inr ⟨by rw [h7]; rfl, by rw [this]; rfl⟩)))
  · rcases wc with hh | hh
    · omega
    · exact absurd (by unfold wantOf; rw [if_neg (by omega), if_neg (by omega), if_neg (by omega), if_neg (by omega), if_neg (by omega)]) hwant
  · rw [ew]
    have e1 : ((d.width.toNat : Nat) : Int) = d.width := by omega
    have e2 : ((d.num.toNat : Nat) : Int) = d.num := by omega
    rw [e1, e2]
    unfold nodeEnd at he
    rw [if_neg hk.1, if_neg hk.2.1, if_neg hk.2.2] at he
    by_cases h15 : d.kind = 1 ∨ d.kind = 5
    · rw [if_pos h15] at he; exact he
    · rw [if_neg h15] at he
      simp at he
      exact he.2

end Go.Proofs.Ytlkhmcajedjojaa

namespace Go.Proofs.Ytlkhmcajedjojaa
open Go.RowKit

def uN (x : Nat) : List Value := [.int .u64 (x : Int)]
def uV (x : Nat) : Value := .int .u64 (x : Int)
/-- a slice of slices of words -/
structure MD where
  a : Option Addr
  c : Nat
  l : List Nat
def MD.cells (m : MD) : List Value := [.slice m.a m.l.length m.c]
def MemsAt (B : Nat) (w : World) (a : Option Addr) (ms : List MD) : Prop := RowAt B w a 1 (ms.map MD.cells) ∧ ∀ m, m ∈ ms → RowAt B w m.a 1 (m.l.map uN) ∧ m.l.length < big
theorem MemsAt.to {B : Nat} {w w' : World} {a : Option Addr} {ms : List MD} (h : MemsAt B w a ms) (hb : Below B w w') : MemsAt B w' a ms := ⟨h.1.to hb, fun m hm => ⟨(h.2 m hm).1.to hb, (h.2 m hm).2⟩⟩
theorem rowU {B : Nat} {w : World} {a : Option Addr} {l : List Nat} (h : RowAt B w a 1 (l.map uN)) {i : Nat} {x : Nat} (hx : l[i]? = some x) : ∃ b o, a = some ⟨b, o, none⟩ ∧ b < B ∧ w.cell? ⟨b, o + i, none⟩ = some (.int .u64 (x : Int)) := by
  obtain ⟨b, o, ha, hb, hc⟩ := h.el hx
  have := hc 0 (.int .u64 (x : Int)) rfl
  exact ⟨b, o, ha, hb, by simpa using this⟩

theorem nodeVal_lt {B : Nat} {w : World} {S : NetS} {N : NetD} (hat : NetAt B w S N) (h : NetOk N = true) (row regs : List Nat) (mems : List (List Nat)) (st : StOk N regs mems) {i : Nat} {d : NodeD} (hd : N.nodes[i]? = some d) (vs : List Nat) (hl : i ≤ vs.length) (hv : VsOk N vs) :
    nodeVal N row regs mems vs d < 2 ^ d.width.toNat := by
  obtain ⟨ho, hin, he⟩ := ok_parts (ok_node h hd)
  have hna := hat.na d (List.mem_of_getElem? hd)
  have pos := Nat.two_pow_pos d.width.toNat
  unfold nodeVal
  unfold nodeEnd at he
  by_cases h30 : d.kind = 30
  · rw [if_pos h30]
    split
    · exact Nat.mod_lt _ pos
    · exact pos
  · rw [if_neg h30] at he ⊢
    by_cases h31 : d.kind = 31
    · rw [if_pos h31] at he ⊢
      rw [decide_eq_true_iff] at he
      obtain ⟨z, hz⟩ : ∃ z, N.regs[d.num.toNat]? = some z := ⟨N.regs[d.num.toNat]'(by omega), List.getElem?_eq_getElem (by omega)⟩
      obtain ⟨x, hx⟩ : ∃ x, regs[d.num.toNat]? = some x := ⟨regs[d.num.toNat]'(by rw [st.rl]; omega), List.getElem?_eq_getElem (by rw [st.rl]; omega)⟩
      rw [hz] at he
      rw [hx]
      have e : z.width = d.width := he.2
      have := st.rr _ x z hx hz
      rw [e] at this
      exact this
    · rw [if_neg h31] at he ⊢
      by_cases h32 : d.kind = 32
      · rw [if_pos h32] at he ⊢
        rw [decide_eq_true_iff] at he
        obtain ⟨z, hz⟩ : ∃ z, N.mems[d.num.toNat]? = some z := ⟨N.mems[d.num.toNat]'(by omega), List.getElem?_eq_getElem (by omega)⟩
        obtain ⟨x, hx⟩ : ∃ x, mems[d.num.toNat]? = some x := ⟨mems[d.num.toNat]'(by rw [st.ml]; omega), List.getElem?_eq_getElem (by rw [st.ml]; omega)⟩
        rw [hz] at he
        rw [hx]
        have e : z.width = d.width := he.2
        have hm := (st.mm _ x z hx hz).2
        simp only [Option.getD_some]
        cases hy : x[vAt vs (at0 d.args 0)]? with
        | none => exact pos
        | some y =>
          have := hm y (List.mem_of_getElem? hy)
          rw [e] at this
          exact this
      · rw [if_neg h32]
        exact opN_lt _ _ _ _ (opok_of hat h hd vs hl hv ⟨h30, h31, h32⟩)
theorem eval_ok {B : Nat} {w : World} {S : NetS} {N : NetD} (hat : NetAt B w S N) (h : NetOk N = true) (row regs : List Nat) (mems : List (List Nat)) (st : StOk N regs mems) (i : Nat) : VsOk N (evalN N row regs mems i) := by
  induction i with
  | zero => intro j x d hx; simp [evalN] at hx
  | succ i ih =>
    intro j x d hx hd
    rcases Nat.lt_or_ge j i with hj | hj
    · rw [eval_stays _ _ _ _ _ _ hj] at hx; exact ih j x d hx hd
    · have hlt := (List.getElem?_eq_some_iff.1 hx).1
      rw [eval_length] at hlt
      have hji : j = i := by omega
      subst hji
      rw [eval_next _ _ _ _ _ d hd, List.getElem?_append_right (by rw [eval_length]; omega), eval_length] at hx
      simp at hx
      rw [← hx]
      exact nodeVal_lt hat h row regs mems st hd _ (by rw [eval_length]; omega) ih

end Go.Proofs.Ytlkhmcajedjojaa
