import Derived.Test.YtefjicdhccfieaaRfE
import Derived.Test.YtefjicdhccfieaaSaH
import Derived.Deep.AppendLies
import Derived.Deep.Upon
import Derived.Deep.AppendSrc
namespace Go.Proofs.Ytefjicdhccfieaa
open Go.RowKit

theorem rowAt_flat {B : Nat} {w : World} {b sz : Nat} {els : List (List Value)} (hb : b < B) (hs : ∀ l, l ∈ els → l.length = sz) (h : ∀ (m : Nat) (v : Value), els.flatten[m]? = some v → w.cell? ⟨b, m, none⟩ = some v) : RowAt B w (some ⟨b, 0, none⟩) sz els := by
  intro hne
  refine ⟨b, 0, rfl, hb, fun i cs hi j x hx => ?_⟩
  rw [Nat.zero_add]
  apply h
  clear h
  induction els generalizing i with
  | nil => simp at hi
  | cons l r ih =>
    have hl := hs l List.mem_cons_self
    cases i with
    | zero =>
      simp at hi; subst hi
      have hj := (List.getElem?_eq_some_iff.1 hx).1
      rw [List.flatten_cons, List.getElem?_append_left (by omega)]
      simpa using hx
    | succ i =>
      have hi' : r[i]? = some cs := by simpa using hi
      rw [List.flatten_cons, List.getElem?_append_right (by rw [hl, Nat.succ_mul]; omega)]
      have := ih (fun l hl => hs l (List.mem_cons_of_mem _ hl)) (List.ne_nil_of_mem (List.mem_of_getElem? hi')) i hi'
      rw [hl]
      rw [show (i + 1) * sz + j - sz = i * sz + j by rw [Nat.succ_mul]; omega]
      exact this
theorem own_row {w : World} {C e sz n : Nat} {v : Value} {els : List (List Value)} (h : w.ownsRow C e sz v n els.flatten) (hs : ∀ l, l ∈ els → l.length = sz) (hz : 0 < sz) : ∃ a c, v = .slice a n c ∧ RowAt w.heap.size w a sz els := by
  rcases h.2 with ⟨h0, h1⟩ | ⟨g, cap, cur, hv, h1⟩
  · refine ⟨none, 0, by rw [h0, h1], ?_⟩
    have hl := h.1
    rw [h1, Nat.zero_mul] at hl
    intro hne
    exfalso
    cases els with
    | nil => exact hne rfl
    | cons x t =>
      have := hs x List.mem_cons_self
      rw [List.flatten_cons, List.length_append] at hl
      omega
  · subst hv
    refine ⟨_, cap, rfl, rowAt_flat (h.lt g rfl).2 hs fun m v hm => ?_⟩
    have := (List.getElem?_eq_some_iff.1 hm).1
    rw [h.cellAt m (by have := h.1; omega)]; exact hm

theorem own_below {w w' : World} {B e size n : Nat} {v : Value} {xs : List Value} (h : w.ownsRow B e size v n xs) (hb : Below w.heap.size w w') : w'.ownsRow B e size v n xs :=
  h.kept (row := none) ⟨hb.os, hb.tape, hb.output, hb.size, fun k hk _ => hb.block k hk⟩ (by
    cases hv : v.ownBlock with
    | none => exact .inl rfl
    | some x => exact .inr (by simp))
theorem heap_alloc_old (w : World) (o : Obj) {k : Nat} (hk : k < w.heap.size) : (w.alloc o).heap[k]? = w.heap[k]? := ((Below.refl _ _).alloc (Nat.le_refl _) o).block k hk
theorem grown_thru {a b c d : World} {x : Nat} {row : Option Nat} (h1 : a.grownBy b (some x)) (h2 : b.grownBy c row) (h3 : c.grownBy d (some x)) (hr : ∀ y, row = some y → a.heap.size ≤ y) : a.grownBy d (some x) :=
  ⟨h3.os.trans (h2.os.trans h1.os), h3.tape.trans (h2.tape.trans h1.tape), h3.output.trans (h2.output.trans h1.output), Nat.le_trans h1.size (Nat.le_trans h2.size h3.size), fun k hk hne => by
    have s1 := h1.size
    have s2 := h2.size
    rw [h3.block k (by omega) hne, h2.block k (by omega) (fun e => by have := hr k e.symm; omega), h1.block k hk hne]⟩
theorem grown_ad (w : World) (o : Obj) (row : Option Nat) : w.grownBy (w.alloc o).drew row := ⟨rfl, rfl, rfl, by simp, fun k hk _ => heap_alloc_old w o hk⟩
theorem grown_trn {a b c : World} {r : Option Nat} (h : a.grownBy b r) (k : b.grownBy c r) : a.grownBy c r :=
  ⟨k.os.trans h.os, k.tape.trans h.tape, k.output.trans h.output, Nat.le_trans h.size k.size, fun x hx hne => (k.block x (Nat.lt_of_lt_of_le hx h.size) hne).trans (h.block x hx hne)⟩
theorem info_cl0 : (Try.prog.info? 26).map (fun i => (i.zero, i.size, i.bytes)) = some (some (.slice none 0 0), 1, 24) := by kernel_rfl
theorem info_cl : ∃ i, Try.prog.info? 26 = some i ∧ i.zero = some (.slice none 0 0) ∧ i.size = 1 ∧ i.bytes = 24 := by
  have h := info_cl0
  cases hi : Try.prog.info? 26 with
  | none => rw [hi] at h; cases h
  | some i => rw [hi] at h; simp at h; exact ⟨i, rfl, h.1, h.2.1, h.2.2⟩

/-- a refutation -/
def RefP (v : Int) (F st : List (List Int)) : Prop := (0 ≤ v ∧ v ≤ 100000 ∧ ∀ d, d ∈ F → ∀ m, m ∈ d → litOk v m = true) ∧ st.getLast? = some [] ∧ ∀ i c, st[i]? = some c → (∀ m, m ∈ c → litOk v m = true) ∧ Fol (F ++ st.take i) c
def RefPost (w : World) (v : Int) (F st : List (List Int)) (e : Ending) (w' : World) : Prop := ∃ b, e = .returned (.bool b) ∧ (b = true ↔ RefP v F st) ∧ Below w.heap.size w w'
theorem fmOk_iff (v : Int) (cls : List CL) : FmOk v cls = true ↔ (0 ≤ v ∧ v ≤ 100000 ∧ ∀ d, d ∈ cls.map CL.l → ∀ m, m ∈ d → litOk v m = true) := by
  unfold FmOk
  simp only [Bool.and_eq_true, decide_eq_true_eq, List.all_eq_true, List.mem_map]
  constructor
  · rintro ⟨⟨h1, h2⟩, h3⟩
    exact ⟨h1, h2, fun d ⟨t, ht, e⟩ m hm => h3 t ht m (by rw [e]; exact hm)⟩
  · rintro ⟨h1, h2, h3⟩
    exact ⟨⟨h1, h2⟩, fun t ht m hm => h3 t.l ⟨t, ht, rfl⟩ m hm⟩
theorem litOk_nat {V : Nat} {m : Int} (h : litOk (V : Int) m = true) : m ≠ 0 ∧ m.natAbs ≤ V := by
  unfold litOk at h
  simp at h
  omega
theorem total_app (a b : List CL) : total (a ++ b) = total a + total b := by simp [total]
theorem total_take_le (cls : List CL) (k : Nat) : total (cls.take k) ≤ total cls := total_le cls k

theorem app_none (W : World) (a : Option Addr) (cc : Nat) : (Builtin.append_ #[22, 22] 22 #[.slice none 0 0, .slice a 0 cc]).run Try.prog W = .ok (.slice none 0 0) W := by
  obtain ⟨ic, hi, _, hs, _⟩ := info_cl
  refine run_append_nothing W _ _ _ 26 ic Try.underlying22 hi none 0 0 (Nat.le_refl _) _ ?_
  cases a with
  | none => exact Src.ofNil W Try.underlying22 cc
  | some x => exact Src.ofSlice W Try.underlying22 x 0 cc [] (by simp) (fun j u h => by simp at h) (fun u h => by cases h)

end Go.Proofs.Ytefjicdhccfieaa
