import Derived.Test.YtefjicdhccfieaaProg
namespace Go.Proofs.Ytefjicdhccfieaa

/-- what unit propagation holds for true -/
inductive Der (F : List (List Int)) (A : Int → Prop) : Int → Prop
  | asm {l : Int} : A l → Der F A l
  | unit {c : List Int} {l : Int} : c ∈ F → l ∈ c → (∀ m, m ∈ c → m ≠ l → Der F A (-m)) → Der F A l
/-- a clause has nothing left -/
def Clash (F : List (List Int)) (A : Int → Prop) : Prop := ∃ c, c ∈ F ∧ ∀ m, m ∈ c → Der F A (-m)
theorem Der.mono {F F' : List (List Int)} {A A' : Int → Prop} (hF : ∀ c, c ∈ F → c ∈ F') (hA : ∀ l, A l → A' l) {l : Int} (h : Der F A l) : Der F' A' l := by
  induction h with
  | asm h => exact .asm (hA _ h)
  | unit h1 h2 _ ih => exact .unit (hF _ h1) h2 ih
theorem Clash.mono {F F' : List (List Int)} {A A' : Int → Prop} (hF : ∀ c, c ∈ F → c ∈ F') (hA : ∀ l, A l → A' l) (h : Clash F A) : Clash F' A' := by
  obtain ⟨c, h1, h2⟩ := h
  exact ⟨c, hF c h1, fun m hm => (h2 m hm).mono hF hA⟩
/-- closed under unit propagation -/
def ClosedS (F : List (List Int)) (S : Int → Prop) : Prop := ∀ c, c ∈ F → ∀ l, l ∈ c → (∀ m, m ∈ c → m ≠ l → S (-m)) → S l
theorem Der.closed {F : List (List Int)} {A S : Int → Prop} (hS : ClosedS F S) (hA : ∀ l, A l → S l) {l : Int} (h : Der F A l) : S l := by
  induction h with
  | asm h => exact hA _ h
  | unit h1 h2 _ ih => exact hS _ h1 _ h2 ih
/-- no literal with its opposite -/
def Cons (S : Int → Prop) : Prop := ∀ l, S l → S (-l) → False
/-- a clause that is true, or has two that are not false -/
def Rests (S : Int → Prop) (d : List Int) : Prop := (∃ l, l ∈ d ∧ S l) ∨ ∃ a b, a ∈ d ∧ b ∈ d ∧ a ≠ b ∧ ¬ S (-a) ∧ ¬ S (-b)
/-- a clause as it is kept: what is not false -/
def Kept (L : Int → Prop) (c d : List Int) : Prop := (∀ m, m ∈ d → m ∈ c) ∧ ∀ m, m ∈ c → m ∉ d → L (-m)
/-- a clause is told by what is kept -/
def ToldC (L : Int → Prop) (D : List (List Int)) (c : List Int) : Prop := (∃ l, l ∈ c ∧ L l) ∨ (∃ l, l ∈ c ∧ -l ∈ c) ∨ ∃ d, d ∈ D ∧ Kept L c d
/-- what is kept of the clauses so far -/
structure Book (F D : List (List Int)) (L : Int → Prop) : Prop where
  sound : ∀ l, L l → Der F (fun _ => False) l
  told : ∀ c, c ∈ F → ToldC L D c
  from_ : ∀ d, d ∈ D → ∃ c, c ∈ F ∧ Kept L c d
  nz : ∀ c, c ∈ F → ∀ l, l ∈ c → l ≠ 0
theorem rests_closed {F D : List (List Int)} {L S : Int → Prop} (hb : Book F D L) (hL : ∀ l, L l → S l) (hc : Cons S) (hr : ∀ d, d ∈ D → Rests S d) : ClosedS F S := by
  intro c hcF l hl hm
  rcases hb.told c hcF with ⟨k, hk, hkL⟩ | ⟨k, hk, hk2⟩ | ⟨d, hd, hd1, hd2⟩
  · by_cases e : k = l
    · rw [← e]; exact hL k hkL
    · exact absurd (hm k hk e) (fun h => hc k (hL k hkL) h)
  · by_cases e : k = l
    · subst e
      have e2 : -k ≠ k := by have := hb.nz c hcF k hk; omega
      have := hm (-k) hk2 e2
      rw [Int.neg_neg] at this
      exact this
    · by_cases e2 : -k = l
      · rw [← e2]; exact hm k hk e
      · have h1 := hm k hk e
        have h2 := hm (-k) hk2 e2
        exact absurd h2 (fun h => hc (-k) h1 h)
  · rcases hr d hd with ⟨k, hk, hkS⟩ | ⟨a, b, ha, hb', hab, hna, hnb⟩
    · by_cases e : k = l
      · rw [← e]; exact hkS
      · exact absurd (hm k (hd1 k hk) e) (fun h => hc k hkS h)
    · by_cases e : a = l
      · have : b ≠ l := fun e2 => hab (by rw [e, e2])
        exact absurd (hm b (hd1 b hb') this) hnb
      · exact absurd (hm a (hd1 a ha) e) hna
theorem rests_quiet {F D : List (List Int)} {L A S : Int → Prop} (hb : Book F D L) (hL : ∀ l, L l → S l) (hA : ∀ l, A l → S l) (hc : Cons S) (hr : ∀ d, d ∈ D → Rests S d) : ¬ Clash F A := by
  rintro ⟨c, hcF, hm⟩
  have hcl := rests_closed hb hL hc hr
  have hS : ∀ m, m ∈ c → S (-m) := fun m h => (hm m h).closed hcl hA
  rcases hb.told c hcF with ⟨k, hk, hkL⟩ | ⟨k, hk, hk2⟩ | ⟨d, hd, hd1, hd2⟩
  · exact hc k (hL k hkL) (hS k hk)
  · have h1 := hS k hk
    have h2 := hS (-k) hk2
    exact hc (-k) h1 h2
  · rcases hr d hd with ⟨k, hk, hkS⟩ | ⟨a, b, ha, _, _, hna, _⟩
    · exact hc k hkS (hS k (hd1 k hk))
    · exact hna (hS a (hd1 a ha))
theorem Book.der {F D : List (List Int)} {L A : Int → Prop} (hb : Book F D L) {l : Int} (h : L l) : Der F A l := (hb.sound l h).mono (fun _ h => h) (fun _ h => h.elim)
theorem Book.unit {F D : List (List Int)} {L A : Int → Prop} (hb : Book F D L) {d : List Int} (hd : d ∈ D) {l : Int} (hl : l ∈ d) (hm : ∀ m, m ∈ d → m ≠ l → Der F A (-m)) : Der F A l := by
  obtain ⟨c, hc, h1, h2⟩ := hb.from_ d hd
  refine .unit hc (h1 l hl) (fun m hmc hml => ?_)
  by_cases hmd : m ∈ d
  · exact hm m hmd hml
  · exact hb.der (h2 m hmc hmd)
theorem Book.clash {F D : List (List Int)} {L A : Int → Prop} (hb : Book F D L) {d : List Int} (hd : d ∈ D) (hm : ∀ m, m ∈ d → Der F A (-m)) : Clash F A := by
  obtain ⟨c, hc, h1, h2⟩ := hb.from_ d hd
  refine ⟨c, hc, fun m hmc => ?_⟩
  by_cases hmd : m ∈ d
  · exact hm m hmd
  · exact hb.der (h2 m hmc hmd)
theorem Kept.mono {L L' : Int → Prop} {c d : List Int} (h : Kept L c d) (hL : ∀ l, L l → L' l) : Kept L' c d := ⟨h.1, fun m h1 h2 => hL _ (h.2 m h1 h2)⟩
theorem ToldC.mono {L L' : Int → Prop} {D D' : List (List Int)} {c : List Int} (h : ToldC L D c) (hL : ∀ l, L l → L' l) (hD : ∀ d, d ∈ D → d ∈ D') : ToldC L' D' c := by
  rcases h with ⟨k, h1, h2⟩ | h | ⟨d, h1, h2⟩
  · exact .inl ⟨k, h1, hL k h2⟩
  · exact .inr (.inl h)
  · exact .inr (.inr ⟨d, hD d h1, h2.mono hL⟩)
/-- lists that have the same -/
def Alike2 (D D' : List (List Int)) : Prop := (∀ d, d ∈ D → ∃ e, e ∈ D' ∧ ∀ m, m ∈ d ↔ m ∈ e) ∧ ∀ e, e ∈ D' → ∃ d, d ∈ D ∧ ∀ m, m ∈ d ↔ m ∈ e
theorem Kept.like {L : Int → Prop} {c d e : List Int} (h : Kept L c d) (he : ∀ m, m ∈ d ↔ m ∈ e) : Kept L c e := ⟨fun m hm => h.1 m ((he m).2 hm), fun m h1 h2 => h.2 m h1 (fun h3 => h2 ((he m).1 h3))⟩
theorem Book.like {F D D' : List (List Int)} {L : Int → Prop} (hb : Book F D L) (h : Alike2 D D') : Book F D' L := by
  refine ⟨hb.sound, fun c hc => ?_, fun e he => ?_, hb.nz⟩
  · rcases hb.told c hc with h1 | h1 | ⟨d, h1, h2⟩
    · exact .inl h1
    · exact .inr (.inl h1)
    · obtain ⟨e, he, hde⟩ := h.1 d h1
      exact .inr (.inr ⟨e, he, h2.like hde⟩)
  · obtain ⟨d, hd, hde⟩ := h.2 e he
    obtain ⟨c, hc, hk⟩ := hb.from_ d hd
    exact ⟨c, hc, hk.like hde⟩
theorem Book.nil : Book [] [] (fun _ => False) := ⟨fun _ h => h.elim, fun _ h => by (cases h), fun _ h => by (cases h), fun _ h => by (cases h)⟩
/-- more is held for ever -/
theorem Book.more {F D : List (List Int)} {L L' : Int → Prop} (hb : Book F D L) (hL : ∀ l, L l → L' l) (hs : ∀ l, L' l → Der F (fun _ => False) l) : Book F D L' :=
  ⟨hs, fun c hc => (hb.told c hc).mono hL (fun _ h => h), fun d hd => by
    obtain ⟨c, hc, hk⟩ := hb.from_ d hd
    exact ⟨c, hc, hk.mono hL⟩, hb.nz⟩
/-- a clause more, that is told already -/
theorem Book.add {F D : List (List Int)} {L : Int → Prop} (hb : Book F D L) {c : List Int} (hc : ToldC L D c) (h0 : ∀ l, l ∈ c → l ≠ 0) : Book (F ++ [c]) D L := by
  refine ⟨fun l hl => (hb.sound l hl).mono (fun x hx => List.mem_append_left _ hx) (fun _ h => h), fun x hx => ?_, fun d hd => ?_, fun x hx => ?_⟩
  · rcases List.mem_append.1 hx with h | h
    · exact hb.told x h
    · rw [List.mem_singleton.1 h]; exact hc
  · obtain ⟨x, hx, hk⟩ := hb.from_ d hd
    exact ⟨x, List.mem_append_left _ hx, hk⟩
  · rcases List.mem_append.1 hx with h | h
    · exact hb.nz x h
    · rw [List.mem_singleton.1 h]; exact h0
/-- a clause more, kept as what is open of it -/
theorem Book.keep {F D : List (List Int)} {L : Int → Prop} (hb : Book F D L) {c d : List Int} (hk : Kept L c d) (h0 : ∀ l, l ∈ c → l ≠ 0) : Book (F ++ [c]) (D ++ [d]) L := by
  refine ⟨fun l hl => (hb.sound l hl).mono (fun x hx => List.mem_append_left _ hx) (fun _ h => h), fun x hx => ?_, fun e he => ?_, fun x hx => ?_⟩
  · rcases List.mem_append.1 hx with h | h
    · exact (hb.told x h).mono (fun _ h => h) (fun _ h => List.mem_append_left _ h)
    · rw [List.mem_singleton.1 h]
      exact .inr (.inr ⟨d, by simp, hk⟩)
  · rcases List.mem_append.1 he with h | h
    · obtain ⟨x, hx, hk⟩ := hb.from_ e h
      exact ⟨x, List.mem_append_left _ hx, hk⟩
    · rw [List.mem_singleton.1 h]
      exact ⟨c, by simp, hk⟩
  · rcases List.mem_append.1 hx with h | h
    · exact hb.nz x h
    · rw [List.mem_singleton.1 h]; exact h0
/-- does a clause follow? -/
def Fol (F : List (List Int)) (c : List Int) : Prop := (∃ l, l ∈ c ∧ -l ∈ c) ∨ Clash F (fun l => -l ∈ c)
/-- a literal that is held for true already: it follows -/
theorem fol_true {F : List (List Int)} {c : List Int} {l : Int} (hl : l ∈ c) (h : Der F (fun _ => False) l) : Fol F c := by
  have h' : Der F (fun l => -l ∈ c) l := h.mono (fun _ h => h) (fun _ h => h.elim)
  cases h with
  | asm h => exact h.elim
  | unit h1 h2 h3 =>
    refine .inr ⟨_, h1, fun m hm => ?_⟩
    by_cases e : m = l
    · subst e; exact .asm (by rw [Int.neg_neg]; exact hl)
    · exact (h3 m hm e).mono (fun _ h => h) (fun _ h => h.elim)
theorem fol_done {F : List (List Int)} {c : List Int} (h : Clash F (fun _ => False)) : Fol F c := .inr (h.mono (fun _ h => h) (fun _ h => h.elim))

end Go.Proofs.Ytefjicdhccfieaa
