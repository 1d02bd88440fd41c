import Derived.Test.YtefjicdhccfieaaRfC
import Derived.Deep.Cut
namespace Go.Proofs.Ytefjicdhccfieaa
open Go.RowKit

theorem row_of_own {w : World} {C e n g : Nat} {xs : List Value} (h : w.ownsRow C e 1 (.slice (some ⟨g, 0, none⟩) n n) n xs) : w.heap[g]? = some (.cells xs.toArray e (0, 0)) := by
  rcases h.2 with ⟨h', _⟩ | ⟨g', cap', cur, h', _, hh, _, _, hcs, htake⟩
  · simp at h'
  · simp only [Value.slice.injEq, Option.some.injEq, Addr.mk.injEq, and_true, true_and] at h'
    obtain ⟨rfl, rfl⟩ := h'
    rw [hh]
    rw [List.take_of_length_le (by rw [Array.length_toList, hcs]; exact Nat.le_refl _)] at htake
    rw [← htake]
theorem made_int (n : Nat) : (madeCells (Value.int .i64 0).cells (n * 1)).toList = List.replicate n (.int .i64 0) := by
  rw [Nat.mul_one]
  apply List.ext_getElem?
  intro i
  by_cases h : i < n
  · simp [madeCells, Value.cells, h, Nat.mod_one]
  · simp [madeCells, Value.cells, h]
theorem none_below {w w' : World} (h : w.grownBy w' none) : Below w.heap.size w w' := ⟨h.os, h.tape, h.output, h.size, fun k hk => h.block k hk (fun e => by cases e)⟩
theorem below_of {w w' : World} {B r : Nat} (hg : w.grownBy w' (some r)) (hr : B ≤ r) (hB : B ≤ w.heap.size) : Below B w w' := ⟨hg.os, hg.tape, hg.output, hg.size, fun k hk => hg.block k (by omega) (fun e => by have := Option.some.inj e; omega)⟩
theorem info_int0 : (Try.prog.info? 3).map (fun i => (i.zero, i.size, i.bytes)) = some (some (.int .i64 0), 1, 8) := by kernel_rfl
theorem info_int : ∃ i, Try.prog.info? 3 = some i ∧ i.zero = some (.int .i64 0) ∧ i.size = 1 ∧ i.bytes = 8 := by
  have h := info_int0
  cases hi : Try.prog.info? 3 with
  | none => rw [hi] at h; cases h
  | some i => rw [hi] at h; simp at h; exact ⟨i, rfl, h.1, h.2.1, h.2.2⟩

/-- how many variables have nothing yet -/
def zeros : List Int → Nat
  | [] => 0
  | x :: l => (if x = 0 then 1 else 0) + zeros l
theorem zeros_set : ∀ (s : List Int) (n : Nat) (y : Int), s[n]? = some 0 → y ≠ 0 → zeros (s.set n y) + 1 = zeros s
  | [], n, y, h, _ => by simp at h
  | x :: l, 0, y, h, hy => by
    simp at h
    subst h
    simp [zeros, hy]; omega
  | x :: l, n + 1, y, h, hy => by
    simp at h
    have := zeros_set l n y h hy
    simp only [List.set_cons_succ, zeros]
    omega
theorem zero_of {s : List Int} {l : Int} (hl : l.natAbs < s.length) (h0 : l ≠ 0) (h1 : isT s l = false) (h2 : isT s (-l) = false) : s[l.natAbs]? = some 0 := by
  rw [List.getElem?_eq_getElem hl]
  unfold isT at h1 h2
  rw [Int.natAbs_neg] at h2
  rw [List.getD_eq_getElem?_getD, List.getElem?_eq_getElem hl] at h1 h2
  simp only [Option.getD_some] at h1 h2
  congr 1
  split at h1 <;> split at h2 <;> simp at h1 h2 <;> omega
theorem zeros_put {s : List Int} {l : Int} (hl : l.natAbs < s.length) (h0 : l ≠ 0) (h1 : isT s l = false) (h2 : isT s (-l) = false) : zeros (putS s l) + 1 = zeros s :=
  zeros_set s _ _ (zero_of hl h0 h1 h2) (by split <;> omega)
/-- what is held at the beginning: the clause's literals are false -/
def InitS (s c : List Int) : Prop := ∀ m, m ≠ 0 → (isT s m = true ↔ -m ∈ c)
def NoT (c : List Int) : Prop := ∀ l, l ∈ c → -l ∉ c
theorem init_zero (n : Nat) : InitS (List.replicate n 0) [] := fun m _ => by
  have : (List.replicate n (0 : Int)).getD m.natAbs 0 = 0 := by rw [List.getD_eq_getElem?_getD, List.getElem?_replicate]; split <;> rfl
  unfold isT
  rw [this]
  simp
theorem init_next {s c : List Int} {x : Int} (h : InitS s c) (hx : x ≠ 0) (hl : x.natAbs < s.length) (hn : isT s x = false) : InitS (putS s (-x)) (c ++ [x]) := fun m hm => by
  rw [isT_put (by rw [Int.natAbs_neg]; exact hl) (by omega) hm (by rw [Int.neg_neg]; exact hn), h m hm]
  simp
  constructor
  · rintro (e | h)
    · exact .inr (by omega)
    · exact .inl h
  · rintro (h | e)
    · exact .inr h
    · exact .inl (by omega)
theorem not_next {s c : List Int} {x : Int} (hi : InitS s c) (h : NoT c) (hx : x ≠ 0) (hn : isT s x = false) : NoT (c ++ [x]) := fun l hl hl2 => by
  have hxc : -x ∉ c := fun hh => by
    have := (hi x hx).2 hh
    rw [hn] at this; cases this
  rcases List.mem_append.1 hl with h1 | h1
  · rcases List.mem_append.1 hl2 with h2 | h2
    · exact h l h1 h2
    · have e : -l = x := List.mem_singleton.1 h2
      exact hxc (by rw [← e, Int.neg_neg]; exact h1)
  · have e : l = x := List.mem_singleton.1 h1
    subst e
    rcases List.mem_append.1 hl2 with h2 | h2
    · exact hxc h2
    · have : -l = l := List.mem_singleton.1 h2
      omega
/-- the set that is held -/
def SS (s : List Int) : Int → Prop := fun l => l ≠ 0 ∧ isT s l = true
/-- what is held is what unit propagation holds -/
structure UpS (F : List (List Int)) (c s : List Int) : Prop where
  sound : ∀ l, SS s l → Der F (fun l => -l ∈ c) l
  has : ∀ l, -l ∈ c → SS s l
theorem up_init {F : List (List Int)} {c s : List Int} (h : InitS s c) (hc : ∀ m, m ∈ c → m ≠ 0) : UpS F c s :=
  ⟨fun l hl => .asm ((h l hl.1).1 hl.2), fun l hl => ⟨by have := hc _ hl; omega, (h l (by have := hc _ hl; omega)).2 hl⟩⟩
theorem up_clash {F : List (List Int)} {c s d : List Int} (h : UpS F c s) (hd : d ∈ F) (h0 : ∀ m, m ∈ d → m ≠ 0) (ho : ∀ m, m ∈ d → isT s (-m) = true) : Fol F c :=
  .inr ⟨d, hd, fun m hm => h.sound _ ⟨by have := h0 m hm; omega, ho m hm⟩⟩
theorem up_put {F : List (List Int)} {c s d : List Int} {x : Int} (h : UpS F c s) (hd : d ∈ F) (h0 : ∀ m, m ∈ d → m ≠ 0) (hx : x ∈ d) (hl : x.natAbs < s.length) (hn : isT s (-x) = false) (ho : ∀ m, m ∈ d → m ≠ x → isT s (-m) = true) : UpS F c (putS s x) := by
  have hx0 := h0 x hx
  have hu : Der F (fun l => -l ∈ c) x := .unit hd hx (fun m hm hne => h.sound _ ⟨by have := h0 m hm; omega, ho m hm hne⟩)
  refine ⟨fun l hl => ?_, fun l hl => ⟨(h.has l hl).1, (isT_put hl' hx0 (h.has l hl).1 hn).2 (.inr (h.has l hl).2)⟩⟩
  · rcases (isT_put hl' hx0 hl.1 hn).1 hl.2 with e | e
    · rw [e]; exact hu
    · exact h.sound l ⟨hl.1, e⟩
  where hl' := hl
/-- a clause rests -/
theorem rests_of {s d : List Int} (h0 : ∀ m, m ∈ d → m ≠ 0) (h1 : (opn s d).1 ≠ 0) (h2 : (opn s d).1 = 1 → isT s (opn s d).2 = true) : Rests (SS s) d := by
  have ok := opn_ok s d
  have := ok.nn
  by_cases e : (opn s d).1 = 1
  · exact .inl ⟨_, (ok.one (by omega)).1, h0 _ (ok.one (by omega)).1, h2 e⟩
  · obtain ⟨a, b, ha, hb, hab, hna, hnb⟩ := ok.two (by omega)
    exact .inr ⟨a, b, ha, hb, hab, fun h => (by have h2 := h.2; rw [hna] at h2; cases h2), fun h => (by have h2 := h.2; rw [hnb] at h2; cases h2)⟩
theorem up_end {F : List (List Int)} {c s : List Int} (h : UpS F c s) (ht : NoT c) (h0 : ∀ d, d ∈ F → ∀ m, m ∈ d → m ≠ 0) (hr : ∀ d, d ∈ F → Rests (SS s) d) : ¬ Fol F c := by
  rintro (⟨l, h1, h2⟩ | hcl)
  · exact ht l h1 h2
  · have hb : Book F F (fun _ => False) := ⟨fun _ h => h.elim, fun d hd => .inr (.inr ⟨d, hd, fun _ h => h, fun m h1 h2 => absurd h1 h2⟩), fun d hd => ⟨d, hd, fun _ h => h, fun m h1 h2 => absurd h1 h2⟩, h0⟩
    exact rests_quiet hb (fun _ h => h.elim) h.has (isT_cons s) hr hcl

end Go.Proofs.Ytefjicdhccfieaa
