import Derived.Test.YtllaedigdjhkjaaRgJ
namespace Go.Proofs.Ytllaedigdjhkjaa
open Go.RowKit

/-- what a trail says -/
def Tl (T : List Nat) : Int → Prop := fun l => ∃ y, y ∈ T ∧ intL y = l
/-- the board between two steps -/
structure Rest (F : List (List Int)) (st : St) : Prop where
  wd : Wd st.V st.cls st.W
  hd : Hd st
  rs : ∀ r, r ∈ st.reason → -1 ≤ r ∧ (r < 1 ∨ r < (st.cls.length : Int))
  w5 : W5 st.cls st.trail
  bk : Book F (Dof st.cls) (Tl st.trail)
  lk0 : st.lk0 = st.trail.length
  lk1 : st.lk1 = st.trail.length
theorem Rest.core {F : List (List Int)} {st : St} (h : Rest F st) (A : Int → Prop) : Core F (Tl st.trail) A st.trail.length st st.W :=
  ⟨h.wd, h.hd, h.rs, Nat.le_refl _, by rw [List.take_length]; exact h.w5, h.bk, fun y hy => h.bk.der ⟨y, hy, rfl⟩⟩
theorem Rest.w4 {F : List (List Int)} {st : St} (h : Rest F st) : W4 st (fun _ _ => False) := by
  intro i c u h1 h2 h3
  exact .inl (h.w5 i c u h1 h2 (List.mem_of_mem_take h3))
theorem rest_of {F : List (List Int)} {L : Int → Prop} {b : Nat} {st : St} (hc : Core F L (fun _ => False) b st st.W) (h4 : W4 st (fun _ _ => False)) (h0 : st.lk0 = st.trail.length) (h1 : st.lk1 = st.trail.length) (hL : ∀ l, L l → Tl st.trail l) : Rest F st := by
  refine ⟨hc.wd, hc.hd, hc.rs, fun i c u q1 q2 q3 => ?_, hc.bk.more hL (fun l hl => ?_), h0, h1⟩
  · rcases h4 i c u q1 q2 (by rw [h0, h1]; split <;> (rw [List.take_length]; exact q3)) with h | h
    · exact h
    · exact h.elim
  · obtain ⟨y, hy, rfl⟩ := hl
    exact hc.so y hy
theorem rest_forget {F : List (List Int)} {L A : Int → Prop} {b : Nat} {st : St} (hc : Core F L A b st st.W) (hL : L = Tl (st.trail.take b)) : Rest F (st.forget b) := by
  have hsp : st.trail = st.trail.take b ++ st.trail.drop b := (List.take_append_drop b st.trail).symm
  have hnd := hc.hd.tnd
  have hmem : ∀ y, y ∈ st.trail ↔ y ∈ st.trail.take b ∨ y ∈ st.trail.drop b := fun y => by
    constructor
    · intro h; rw [hsp] at h; exact List.mem_append.1 h
    · rintro (h | h)
      · exact List.mem_of_mem_take h
      · exact List.mem_of_mem_drop h
  have hdis : ∀ y, y ∈ st.trail.take b → y ∉ st.trail.drop b := fun y h1 h2 => by
    rw [hsp, List.nodup_append] at hnd
    exact hnd.2.2 y h1 y h2 rfl
  have hb := hc.bf
  have hlen : (st.trail.take b).length = b := by rw [List.length_take]; omega
  refine ⟨hc.wd, ⟨?_, fun y hy => ?_, fun y hy => ?_, ?_, fun y hy hy2 => ?_, ?_, ?_⟩, hc.rs, hc.w5, ?_, hlen.symm, hlen.symm⟩
  · simp only [St.forget, clr_len]; exact hc.hd.heldL
  · show (clr (st.trail.drop b) st.held).getD y 0 = if y ∈ st.trail.take b then 1 else if oppN y ∈ st.trail.take b then -1 else 0
    rw [clr_get _ _ st.V hc.hd.heldL (fun a ha => hc.hd.tlt a (List.mem_of_mem_drop ha)) y, hc.hd.held y hy]
    by_cases h1 : y ∈ st.trail.drop b
    · have n1 : y ∉ st.trail.take b := fun h => hdis y h h1
      have n2 : oppN y ∉ st.trail.take b := fun h => hc.hd.cons y ((hmem y).2 (.inr h1)) ((hmem _).2 (.inl h))
      simp [h1, n1, n2]
    · by_cases h2 : oppN y ∈ st.trail.drop b
      · have n2 : oppN y ∉ st.trail.take b := fun h => hdis _ h h2
        have n1 : y ∉ st.trail.take b := fun h => hc.hd.cons y ((hmem y).2 (.inl h)) ((hmem _).2 (.inr h2))
        simp [h2, n1, n2]
      · have e1 : y ∈ st.trail ↔ y ∈ st.trail.take b := by rw [hmem]; simp [h1]
        have e2 : oppN y ∈ st.trail ↔ oppN y ∈ st.trail.take b := by rw [hmem]; simp [h2]
        rw [if_neg (by exact fun h => h.elim h1 h2)]
        simp only [e1, e2]
  · exact hc.hd.tlt y (List.mem_of_mem_take hy)
  · exact hnd.sublist (List.take_sublist _ _)
  · exact hc.hd.cons y (List.mem_of_mem_take hy) (List.mem_of_mem_take hy2)
  · show b ≤ (st.trail.take b).length; omega
  · show b ≤ (st.trail.take b).length; omega
  · show Book F (Dof st.cls) (Tl (st.trail.take b))
    rw [← hL]; exact hc.bk
/-- a board that differs in tiers and watches alone -/
theorem Rest.like {F : List (List Int)} {st st' : St} (h : Rest F st) (hV : st'.V = st.V) (hh : st'.held = st.held) (hr : st'.reason = st.reason) (ht : st'.trail = st.trail) (h0 : st'.lk0 = st.lk0) (h1 : st'.lk1 = st.lk1) (hl : st'.cls.map BC.l = st.cls.map BC.l) (hw : Wd st'.V st'.cls st'.W) : Rest F st' := by
  have hlen : st'.cls.length = st.cls.length := by have := congrArg List.length hl; simpa using this
  refine ⟨hw, ⟨?_, ?_, ?_, ?_, ?_, ?_, ?_⟩, ?_, ?_, ?_, ?_, ?_⟩
  · rw [hh, hV]; exact h.hd.heldL
  · rw [hh, hV, ht]; exact h.hd.held
  · rw [hV, ht]; exact h.hd.tlt
  · rw [ht]; exact h.hd.tnd
  · rw [ht]; exact h.hd.cons
  · rw [h0, ht]; exact h.hd.l0
  · rw [h1, ht]; exact h.hd.l1
  · rw [hr, hlen]; exact h.rs
  · rw [ht]
    intro i c u q1 q2 q3
    have e1 : (st'.cls.map BC.l)[i]? = some c.l := by rw [List.getElem?_map, q1]; rfl
    rw [hl, List.getElem?_map] at e1
    cases hd : st.cls[i]? with
    | none => rw [hd] at e1; cases e1
    | some d =>
      rw [hd] at e1
      have e2 : d.l = c.l := by simpa using e1
      obtain ⟨y, h6, h7⟩ := h.w5 i d u hd (by unfold wt at q2 ⊢; rw [e2]; exact q2) q3
      exact ⟨y, by rw [← e2]; exact h6, h7⟩
  · have e : Dof st'.cls = Dof st.cls := by
      have := congrArg (List.map (List.map intL)) hl
      rw [List.map_map, List.map_map] at this
      exact this
    rw [e, ht]; exact h.bk
  · rw [h0, ht]; exact h.lk0
  · rw [h1, ht]; exact h.lk1
theorem Rest.reason {F : List (List Int)} {st : St} (h : Rest F st) {r : List Int} (hr : ∀ q, q ∈ r → q ∈ st.reason ∨ q = -1) : Rest F { st with reason := r } :=
  ⟨h.wd, ⟨h.hd.heldL, h.hd.held, h.hd.tlt, h.hd.tnd, h.hd.cons, h.hd.l0, h.hd.l1⟩, fun q hq => by
    rcases hr q hq with h1 | h1
    · exact h.rs q h1
    · subst h1; exact ⟨by omega, .inl (by omega)⟩, h.w5, h.bk, h.lk0, h.lk1⟩
theorem op_rs (c : List Int) (x : St × List Nat × Bool) : ∀ q, q ∈ (c.foldl opStep x).1.reason → q ∈ x.1.reason ∨ q = -1 := by
  induction c generalizing x with
  | nil => intro q h; exact .inl h
  | cons n r ih =>
    intro q h
    rw [List.foldl_cons] at h
    rcases ih _ q h with h | h
    · unfold opStep at h
      split at h
      · simp only [St.hold] at h
        rcases List.mem_or_eq_of_mem_set h with h | h
        · exact .inl h
        · exact .inr h
      · exact .inl h
    · exact .inr h
/-- openOf leaves a board at rest -/
theorem Rest.opened {F : List (List Int)} {st : St} (h : Rest F st) {c : List Int} (hc : ∀ n, n ∈ c → n ≠ 0 ∧ n.natAbs ≤ st.V) : ∃ r, (opAll st c).1.forget st.trail.length = { st with reason := r } ∧ Rest F { st with reason := r } := by
  obtain ⟨r, hr⟩ := open_back h.hd.even h.hd.heldL hc ⟨h.lk0, h.lk1⟩
  refine ⟨r, hr, h.reason (fun q hq => ?_)⟩
  have e : (opAll st c).1.reason = r := by
    have := congrArg St.reason hr
    exact this
  rw [← e] at hq
  exact op_rs c (st, [], false) q hq
theorem litN_inj {m n : Int} (hm : m ≠ 0) (hn : n ≠ 0) (h : litN m = litN n) : m = n := by rw [← intL_lit hm, ← intL_lit hn, h]
theorem lit_opp {m n : Int} (hm : m ≠ 0) (hn : n ≠ 0) (h : oppN (litN n) = litN m) : m = -n := by
  have := congrArg intL h
  rw [intL_opp, intL_lit hn, intL_lit hm] at this
  exact this.symm
theorem Hd.notL {st : St} (h : Hd st) {n : Int} (h0 : n ≠ 0) (hn : n.natAbs ≤ st.V) (hh : st.held.getD (litN n) 0 < 0) : Tl st.trail (-n) := by
  refine ⟨oppN (litN n), (h.neg (litN_lt h0 hn)).1 hh, ?_⟩
  rw [intL_opp, intL_lit h0]
/-- a clause that is true for ever -/
theorem Rest.true {F : List (List Int)} {st : St} (h : Rest F st) {c : List Int} (hc : ∀ n, n ∈ c → n ≠ 0 ∧ n.natAbs ≤ st.V) {op : List Nat} (mem : ∀ y, y ∈ op → ∃ n, n ∈ c ∧ y = litN n) (tt : (∃ n, n ∈ c ∧ 0 < st.held.getD (litN n) 0) ∨ ∃ n, n ∈ c ∧ oppN (litN n) ∈ op) : Rest (F ++ [c]) st := by
  have told : ToldC (Tl st.trail) (Dof st.cls) c := by
    rcases tt with ⟨n, hn, hp⟩ | ⟨n, hn, ho⟩
    · obtain ⟨h0, h1⟩ := hc n hn
      exact .inl ⟨n, hn, litN n, (h.hd.pos (litN_lt h0 h1)).1 hp, intL_lit h0⟩
    · obtain ⟨m, hm, e⟩ := mem _ ho
      have := lit_opp (hc m hm).1 (hc n hn).1 e
      exact .inr (.inl ⟨n, hn, by rw [← this]; exact hm⟩)
  exact ⟨h.wd, h.hd, h.rs, h.w5, h.bk.add told (fun l hl => (hc l hl).1), h.lk0, h.lk1⟩
/-- a clause of which nothing is open -/
theorem Rest.nothing {F : List (List Int)} {st : St} (h : Rest F st) {c : List Int} (hc : ∀ n, n ∈ c → n ≠ 0 ∧ n.natAbs ≤ st.V) (all : ∀ n, n ∈ c → st.held.getD (litN n) 0 < 0) : Clash (F ++ [c]) (fun _ => False) :=
  ⟨c, by simp, fun m hm => (h.bk.sound _ (h.hd.notL (hc m hm).1 (hc m hm).2 (all m hm))).mono (fun x hx => List.mem_append_left _ hx) (fun _ h => h)⟩
theorem Der.more {F : List (List Int)} {A : Int → Prop} {l : Int} (h : Der F A l) (c : List Int) : Der (F ++ [c]) A l := h.mono (fun _ hx => List.mem_append_left _ hx) (fun _ h => h)
/-- a clause of which one literal is open -/
theorem Rest.one {F : List (List Int)} {st : St} (h : Rest F st) {c : List Int} (hc : ∀ n, n ∈ c → n ≠ 0 ∧ n.natAbs ≤ st.V) {l : Nat} (hlt : l < 2 * st.V) (zero : st.held.getD l 0 = 0) (mem : ∃ n, n ∈ c ∧ l = litN n) (all : ∀ n, n ∈ c → litN n = l ∨ st.held.getD (litN n) 0 < 0) :
    Core (F ++ [c]) (Tl (st.trail ++ [l])) (fun _ => False) st.trail.length (st.hold l (-1)) (st.hold l (-1)).W ∧ W4 (st.hold l (-1)) (fun _ _ => False) := by
  obtain ⟨n, hn, rfl⟩ := mem
  have hl : intL (litN n) = n := intL_lit (hc n hn).1
  have hder : Der (F ++ [c]) (fun _ => False) (intL (litN n)) := by
    rw [hl]
    refine .unit (c := c) (by simp) hn (fun m hm hne => ?_)
    rcases all m hm with e | e
    · exact absurd (litN_inj (hc m hm).1 (hc n hn).1 e) hne
    · exact (h.bk.sound _ (h.hd.notL (hc m hm).1 (hc m hm).2 e)).more c
  have hsub : ∀ x, Tl st.trail x → Tl (st.trail ++ [litN n]) x := fun x hx => by
    obtain ⟨y, hy, e⟩ := hx
    exact ⟨y, List.mem_append_left _ hy, e⟩
  have hbk : Book (F ++ [c]) (Dof st.cls) (Tl (st.trail ++ [litN n])) := by
    refine ⟨fun x hx => ?_, fun x hx => ?_, fun d hd => ?_, fun x hx => ?_⟩
    · obtain ⟨y, hy, rfl⟩ := hx
      rcases List.mem_append.1 hy with hy | hy
      · exact (h.bk.sound _ ⟨y, hy, rfl⟩).more c
      · rw [List.mem_singleton.1 hy]; exact hder
    · rcases List.mem_append.1 hx with hx | hx
      · exact (h.bk.told x hx).mono hsub (fun _ h => h)
      · rw [List.mem_singleton.1 hx]
        exact .inl ⟨n, hn, litN n, by simp, hl⟩
    · obtain ⟨x, hx, hk⟩ := h.bk.from_ d hd
      exact ⟨x, List.mem_append_left _ hx, hk.mono hsub⟩
    · rcases List.mem_append.1 hx with hx | hx
      · exact h.bk.nz x hx
      · rw [List.mem_singleton.1 hx]; exact fun l hl => (hc l hl).1
  have hco : Core (F ++ [c]) (Tl (st.trail ++ [litN n])) (fun _ => False) st.trail.length st st.W :=
    ⟨h.wd, h.hd, h.rs, Nat.le_refl _, by rw [List.take_length]; exact h.w5, hbk, fun y hy => (h.bk.sound _ ⟨y, hy, rfl⟩).more c⟩
  exact ⟨hco.hold hlt zero (-1) ⟨by omega, .inl (by omega)⟩ hder, h.w4.hold h.hd _ (-1)⟩
/-- a clause that has nothing left -/
theorem clash_of {F : List (List Int)} {L A : Int → Prop} {b : Nat} {st : St} {W : Nat → Nat → List (Nat × Nat)} (hc : Core F L A b st W) {ci : Nat} {c' : BC} (hci : st.cls[ci]? = some c') (hm : ∀ m, m ∈ c'.l → oppN m ∈ st.trail) : Clash F A :=
  hc.bk.clash (d := c'.l.map intL) (List.mem_map.2 ⟨c', List.mem_of_getElem? hci, rfl⟩) (fun m h => by
    obtain ⟨z, hz, rfl⟩ := List.mem_map.1 h
    rw [← intL_opp]
    exact hc.so _ (hm z hz))
def St.push (st : St) (c : BC) : St := { st with cls := st.cls ++ [c] }
theorem push_get {cls : List BC} {nc d : BC} {j : Nat} (h : (cls ++ [nc])[j]? = some d) : (j = cls.length ∧ d = nc) ∨ (j < cls.length ∧ cls[j]? = some d) := by
  by_cases e : j < cls.length
  · rw [List.getElem?_append_left e] at h; exact .inr ⟨e, h⟩
  · have h1 := (List.getElem?_eq_some_iff.1 h).1
    have e2 : j = cls.length := by simp at h1; omega
    subst e2
    simp at h
    exact .inl ⟨rfl, h.symm⟩
theorem push_old {cls : List BC} {nc d : BC} {j : Nat} (h : cls[j]? = some d) : (cls ++ [nc])[j]? = some d := by
  rw [List.getElem?_append_left (List.getElem?_eq_some_iff.1 h).1]; exact h
/-- a clause of which more is open is kept -/
theorem Rest.push {F : List (List Int)} {st : St} (h : Rest F st) {c : List Int} (hc : ∀ n, n ∈ c → n ≠ 0 ∧ n.natAbs ≤ st.V) {op : List Nat} (nd : op.Nodup) (lt : ∀ y, y ∈ op → y < 2 * st.V) (zero : ∀ y, y ∈ op → st.held.getD y 0 = 0) (mem : ∀ y, y ∈ op → ∃ n, n ∈ c ∧ y = litN n) (all : ∀ n, n ∈ c → litN n ∈ op ∨ st.held.getD (litN n) 0 < 0) {l0 l1 : Nat} (h0 : op[0]? = some l0) (h1 : op[1]? = some l1) (rd : Nat) :
    Rest (F ++ [c]) ((((st.push ⟨op, 2, 0, rd⟩).tierAt st.cls.length 0).addW 0 l0 (st.cls.length, l1)).addW 0 l1 (st.cls.length, l0)) := by
  have hne : l0 ≠ l1 := fun e => by subst e; have := nodup_get nd h0 h1; omega
  have hlen2 : 2 ≤ op.length := by have := (List.getElem?_eq_some_iff.1 h1).1; omega
  have hcn : (st.cls ++ [(⟨op, 2, 0, rd⟩ : BC)])[st.cls.length]? = some ⟨op, 2, 0, rd⟩ := by simp
  obtain ⟨a1, a2, a3, a4, a5⟩ := Wd.watch (V := st.V) (W := st.W) hcn (t := 0) (by decide) h0 h1 hne
    (fun j d hd => by
      rcases push_get hd with ⟨rfl, rfl⟩ | ⟨_, hd⟩
      · exact ⟨hlen2, nd, lt, (show (0 : Nat) < 2 by decide), Nat.le_refl _, hlen2⟩
      · exact h.wd.two j d hd)
    (fun j d u hj hd hu => by
      rcases push_get hd with ⟨e, rfl⟩ | ⟨_, hd⟩
      · exact absurd e hj
      · exact .inl (h.wd.has j d u hd hu))
    (fun t' l j o hm => by
      obtain ⟨d, hd, q1, q2, q3⟩ := h.wd.own t' l j o hm
      exact ⟨d, push_old hd, q1, q2, q3⟩)
    h.wd.nd
    (fun l o hm => by
      obtain ⟨d, hd, _⟩ := h.wd.own 0 l _ o hm
      have := (List.getElem?_eq_some_iff.1 hd).1
      omega)
    (fun e => absurd rfl e)
  have hml : ((st.cls ++ [(⟨op, 2, 0, rd⟩ : BC)]).modify st.cls.length fun c => { c with tier := 0 }).map BC.l = st.cls.map BC.l ++ [op] := by
    rw [map_mod_l _ _ (fun c : BC => { c with tier := 0 }) (fun _ => rfl)]; simp
  have hln : ((st.cls ++ [(⟨op, 2, 0, rd⟩ : BC)]).modify st.cls.length fun c => { c with tier := 0 }).length = st.cls.length + 1 := by simp
  refine ⟨⟨a1, fun j d u hd hu => ?_, a3, a4⟩, ⟨h.hd.heldL, h.hd.held, h.hd.tlt, h.hd.tnd, h.hd.cons, h.hd.l0, h.hd.l1⟩, fun r hr => ?_, fun j d u hd hu hu2 => ?_, ?_, h.lk0, h.lk1⟩
  · rcases a2 j d u hd hu with h5 | h5
    · exact h5
    · have h6 := (List.getElem?_eq_some_iff.1 hd).1
      have : j < st.cls.length + 1 := by rw [← hln]; exact h6
      omega
  · have h6 := h.rs r hr
    refine ⟨h6.1, ?_⟩
    have : (((((st.push ⟨op, 2, 0, rd⟩).tierAt st.cls.length 0).addW 0 l0 (st.cls.length, l1)).addW 0 l1 (st.cls.length, l0)).cls.length : Int) = (st.cls.length : Int) + 1 := by
      show ((((st.cls ++ [(⟨op, 2, 0, rd⟩ : BC)]).modify st.cls.length fun c => { c with tier := 0 }).length : Nat) : Int) = _
      rw [hln]; omega
    rw [this]
    omega
  · rcases mod_get hd with ⟨rfl, d', hd', rfl⟩ | ⟨hj, hd'⟩
    · have hd'' := hcn.symm.trans hd'
      cases hd''
      have hu3 : u ∈ op := wt.mem hu
      have h7 := zero u hu3
      have h8 := (h.hd.neg (lt u hu3)).2 hu2
      omega
    · rcases push_get hd' with ⟨e, rfl⟩ | ⟨_, hd2⟩
      · exact absurd e hj
      · exact h.w5 j d u hd2 hu hu2
  · have e : Dof ((st.cls ++ [(⟨op, 2, 0, rd⟩ : BC)]).modify st.cls.length fun c => { c with tier := 0 }) = Dof st.cls ++ [op.map intL] := by
      have := congrArg (List.map (List.map intL)) hml
      rw [List.map_map, List.map_append, List.map_map] at this
      exact this
    have hk : Kept (Tl st.trail) c (op.map intL) := by
      refine ⟨fun m hm => ?_, fun m hm hn => ?_⟩
      · obtain ⟨y, hy, rfl⟩ := List.mem_map.1 hm
        obtain ⟨n, hn, rfl⟩ := mem y hy
        rw [intL_lit (hc n hn).1]; exact hn
      · rcases all m hm with h9 | h9
        · exact absurd (List.mem_map.2 ⟨litN m, h9, intL_lit (hc m hm).1⟩) hn
        · exact h.hd.notL (hc m hm).1 (hc m hm).2 h9
    have := h.bk.keep hk (fun l hl => (hc l hl).1)
    rw [← e] at this
    exact this

end Go.Proofs.Ytllaedigdjhkjaa
