import Derived.Test.YtefjicdhccfieaaK01
import Derived.Test.YtefjicdhccfieaaK38
set_option maxRecDepth 100000
set_option maxHeartbeats 16000000
namespace Go.Proofs.Ytefjicdhccfieaa
open Go.RowKit
def Tl (T : List Nat) : Int → Prop := fun l => ∃ y, y ∈ T ∧ intL y = l
structure Rest (F : List (List Int)) (st : St) : Prop where
 wd : Wd st.V st.cls st.W
 hd : Hd st
 rs : ∀ r, r ∈ st.reason → -1 ≤ r ∧ (r < 1 ∨ r < (st.cls.length : Int))
 w5 : W5 st.cls st.trail
 bk : Book F (Dof st.cls) (Tl st.trail)
 lk0 : st.lk0 = st.trail.length
 lk1 : st.lk1 = st.trail.length
theorem Rest.core {F : List (List Int)} {st : St} (h : Rest F st) (A : Int → Prop) : Core F (Tl st.trail) A st.trail.length st st.W :=
 ⟨h.wd, h.hd, h.rs, Nat.le_refl _, by rw [List.take_length]; exact h.w5, h.bk, fun y hy => h.bk.der ⟨y, hy, rfl⟩⟩
theorem Rest.w4 {F : List (List Int)} {st : St} (h : Rest F st) : W4 st (fun _ _ => False) := by
 intro i c u h1 h2 h3
 exact .inl (h.w5 i c u h1 h2 (List.mem_of_mem_take h3))
theorem rest_of {F : List (List Int)} {L : Int → Prop} {b : Nat} {st : St} (hc : Core F L (fun _ => False) b st st.W) (h4 : W4 st (fun _ _ => False)) (h0 : st.lk0 = st.trail.length) (h1 : st.lk1 = st.trail.length) (hL : ∀ l, L l → Tl st.trail l) : Rest F st := by
 refine ⟨hc.wd, hc.hd, hc.rs, fun i c u q1 q2 q3 => ?_, hc.bk.more hL (fun l hl => ?_), h0, h1⟩
 ·rcases h4 i c u q1 q2 (by rw [h0, h1]; split <;> (rw [List.take_length]; exact q3)) with h | h
  ·exact h
  ·exact h.elim
 ·obtain ⟨y, hy, rfl⟩ := hl
  exact hc.so y hy
theorem rest_forget {F : List (List Int)} {L A : Int → Prop} {b : Nat} {st : St} (hc : Core F L A b st st.W) (hL : L = Tl (st.trail.take b)) : Rest F (st.forget b) := by
 have hsp : st.trail = st.trail.take b ++ st.trail.drop b := (List.take_append_drop b st.trail).symm
 have hnd := hc.hd.tnd
 have hmem : ∀ y, y ∈ st.trail ↔ y ∈ st.trail.take b ∨ y ∈ st.trail.drop b := fun y => by
  constructor
  ·intro h; rw [hsp] at h; exact List.mem_append.1 h
  ·rintro (h | h)
   ·exact List.mem_of_mem_take h
   ·exact List.mem_of_mem_drop h
 have hdis : ∀ y, y ∈ st.trail.take b → y ∉ st.trail.drop b := fun y h1 h2 => by
  rw [hsp, List.nodup_append] at hnd
  exact hnd.2.2 y h1 y h2 rfl
 have hb := hc.bf
 have hlen : (st.trail.take b).length = b := by rw [List.length_take]; omega
 refine ⟨hc.wd, ⟨?_, fun y hy => ?_, fun y hy => ?_, ?_, fun y hy hy2 => ?_, ?_, ?_⟩, hc.rs, hc.w5, ?_, hlen.symm, hlen.symm⟩
 ·simp only [St.forget, clr_len]; exact hc.hd.heldL
 ·show (clr (st.trail.drop b) st.held).getD y 0 = if y ∈ st.trail.take b then 1 else if oppN y ∈ st.trail.take b then -1 else 0
  rw [clr_get _ _ st.V hc.hd.heldL (fun a ha => hc.hd.tlt a (List.mem_of_mem_drop ha)) y, hc.hd.held y hy]
  by_cases h1 : y ∈ st.trail.drop b
  ·have n1 : y ∉ st.trail.take b := fun h => hdis y h h1
   have n2 : oppN y ∉ st.trail.take b := fun h => hc.hd.cons y ((hmem y).2 (.inr h1)) ((hmem _).2 (.inl h))
   simp [h1, n1, n2]
  ·by_cases h2 : oppN y ∈ st.trail.drop b
   ·have n2 : oppN y ∉ st.trail.take b := fun h => hdis _ h h2
    have n1 : y ∉ st.trail.take b := fun h => hc.hd.cons y ((hmem y).2 (.inl h)) ((hmem _).2 (.inr h2))
    simp [h2, n1, n2]
   ·have e1 : y ∈ st.trail ↔ y ∈ st.trail.take b := by rw [hmem]; simp [h1]
    have e2 : oppN y ∈ st.trail ↔ oppN y ∈ st.trail.take b := by rw [hmem]; simp [h2]
    rw [if_neg (by exact fun h => h.elim h1 h2)]
    simp only [e1, e2]
 ·exact hc.hd.tlt y (List.mem_of_mem_take hy)
 ·exact hnd.sublist (List.take_sublist _ _)
 ·exact hc.hd.cons y (List.mem_of_mem_take hy) (List.mem_of_mem_take hy2)
 ·show b ≤ (st.trail.take b).length; omega
 ·show b ≤ (st.trail.take b).length; omega
 ·show Book F (Dof st.cls) (Tl (st.trail.take b))
  rw [← hL]; exact hc.bk
theorem Rest.like {F : List (List Int)} {st st' : St} (h : Rest F st) (hV : st'.V = st.V) (hh : st'.held = st.held) (hr : st'.reason = st.reason) (ht : st'.trail = st.trail) (h0 : st'.lk0 = st.lk0) (h1 : st'.lk1 = st.lk1) (hl : st'.cls.map BC.l = st.cls.map BC.l) (hw : Wd st'.V st'.cls st'.W) : Rest F st' := by
 have hlen : st'.cls.length = st.cls.length := by have := congrArg List.length hl; simpa using this
 refine ⟨hw, ⟨?_, ?_, ?_, ?_, ?_, ?_, ?_⟩, ?_, ?_, ?_, ?_, ?_⟩
 ·rw [hh, hV]; exact h.hd.heldL
 ·rw [hh, hV, ht]; exact h.hd.held
 ·rw [hV, ht]; exact h.hd.tlt
 ·rw [ht]; exact h.hd.tnd
 ·rw [ht]; exact h.hd.cons
 ·rw [h0, ht]; exact h.hd.l0
 ·rw [h1, ht]; exact h.hd.l1
 ·rw [hr, hlen]; exact h.rs
 ·rw [ht]
  intro i c u q1 q2 q3
  have e1 : (st'.cls.map BC.l)[i]? = some c.l := by rw [List.getElem?_map, q1]; rfl
  rw [hl, List.getElem?_map] at e1
  cases hd : st.cls[i]? with
  | none => rw [hd] at e1; cases e1
  | some d =>
   rw [hd] at e1
   have e2 : d.l = c.l := by simpa using e1
   obtain ⟨y, h6, h7⟩ := h.w5 i d u hd (by unfold wt at q2 ⊢; rw [e2]; exact q2) q3
   exact ⟨y, by rw [← e2]; exact h6, h7⟩
 ·have e : Dof st'.cls = Dof st.cls := by
   have := congrArg (List.map (List.map intL)) hl
   rw [List.map_map, List.map_map] at this
   exact this
  rw [e, ht]; exact h.bk
 ·rw [h0, ht]; exact h.lk0
 ·rw [h1, ht]; exact h.lk1
theorem Rest.reason {F : List (List Int)} {st : St} (h : Rest F st) {r : List Int} (hr : ∀ q, q ∈ r → q ∈ st.reason ∨ q = -1) : Rest F { st with reason := r } :=
 ⟨h.wd, ⟨h.hd.heldL, h.hd.held, h.hd.tlt, h.hd.tnd, h.hd.cons, h.hd.l0, h.hd.l1⟩, fun q hq => by
  rcases hr q hq with h1 | h1
  ·exact h.rs q h1
  ·subst h1; exact ⟨by omega, .inl (by omega)⟩, h.w5, h.bk, h.lk0, h.lk1⟩
theorem op_rs (c : List Int) (x : St × List Nat × Bool) : ∀ q, q ∈ (c.foldl opStep x).1.reason → q ∈ x.1.reason ∨ q = -1 := by
 induction c generalizing x with
 | nil => intro q h; exact .inl h
 | cons n r ih =>
  intro q h
  rw [List.foldl_cons] at h
  rcases ih _ q h with h | h
  ·unfold opStep at h
   split at h
   ·simp only [St.hold] at h
    rcases List.mem_or_eq_of_mem_set h with h | h
    ·exact .inl h
    ·exact .inr h
   ·exact .inl h
  ·exact .inr h
theorem Rest.opened {F : List (List Int)} {st : St} (h : Rest F st) {c : List Int} (hc : ∀ n, n ∈ c → n ≠ 0 ∧ n.natAbs ≤ st.V) : ∃ r, (opAll st c).1.forget st.trail.length = { st with reason := r } ∧ Rest F { st with reason := r } := by
 obtain ⟨r, hr⟩ := open_back h.hd.even h.hd.heldL hc ⟨h.lk0, h.lk1⟩
 refine ⟨r, hr, h.reason (fun q hq => ?_)⟩
 have e : (opAll st c).1.reason = r := by
  have := congrArg St.reason hr
  exact this
 rw [← e] at hq
 exact op_rs c (st, [], false) q hq
theorem litN_inj {m n : Int} (hm : m ≠ 0) (hn : n ≠ 0) (h : litN m = litN n) : m = n := by rw [← intL_lit hm, ← intL_lit hn, h]
theorem lit_opp {m n : Int} (hm : m ≠ 0) (hn : n ≠ 0) (h : oppN (litN n) = litN m) : m = -n := by
 have := congrArg intL h
 rw [intL_opp, intL_lit hn, intL_lit hm] at this
 exact this.symm
theorem Hd.notL {st : St} (h : Hd st) {n : Int} (h0 : n ≠ 0) (hn : n.natAbs ≤ st.V) (hh : st.held.getD (litN n) 0 < 0) : Tl st.trail (-n) := by
 refine ⟨oppN (litN n), (h.neg (litN_lt h0 hn)).1 hh, ?_⟩
 rw [intL_opp, intL_lit h0]
theorem Rest.true {F : List (List Int)} {st : St} (h : Rest F st) {c : List Int} (hc : ∀ n, n ∈ c → n ≠ 0 ∧ n.natAbs ≤ st.V) {op : List Nat} (mem : ∀ y, y ∈ op → ∃ n, n ∈ c ∧ y = litN n) (tt : (∃ n, n ∈ c ∧ 0 < st.held.getD (litN n) 0) ∨ ∃ n, n ∈ c ∧ oppN (litN n) ∈ op) : Rest (F ++ [c]) st := by
 have told : ToldC (Tl st.trail) (Dof st.cls) c := by
  rcases tt with ⟨n, hn, hp⟩ | ⟨n, hn, ho⟩
  ·obtain ⟨h0, h1⟩ := hc n hn
   exact .inl ⟨n, hn, litN n, (h.hd.pos (litN_lt h0 h1)).1 hp, intL_lit h0⟩
  ·obtain ⟨m, hm, e⟩ := mem _ ho
   have := lit_opp (hc m hm).1 (hc n hn).1 e
   exact .inr (.inl ⟨n, hn, by rw [← this]; exact hm⟩)
 exact ⟨h.wd, h.hd, h.rs, h.w5, h.bk.add told (fun l hl => (hc l hl).1), h.lk0, h.lk1⟩
theorem Rest.nothing {F : List (List Int)} {st : St} (h : Rest F st) {c : List Int} (hc : ∀ n, n ∈ c → n ≠ 0 ∧ n.natAbs ≤ st.V) (all : ∀ n, n ∈ c → st.held.getD (litN n) 0 < 0) : Clash (F ++ [c]) (fun _ => False) :=
 ⟨c, by simp, fun m hm => (h.bk.sound _ (h.hd.notL (hc m hm).1 (hc m hm).2 (all m hm))).mono (fun x hx => List.mem_append_left _ hx) (fun _ h => h)⟩
theorem Der.more {F : List (List Int)} {A : Int → Prop} {l : Int} (h : Der F A l) (c : List Int) : Der (F ++ [c]) A l := h.mono (fun _ hx => List.mem_append_left _ hx) (fun _ h => h)
theorem Rest.one {F : List (List Int)} {st : St} (h : Rest F st) {c : List Int} (hc : ∀ n, n ∈ c → n ≠ 0 ∧ n.natAbs ≤ st.V) {l : Nat} (hlt : l < 2 * st.V) (zero : st.held.getD l 0 = 0) (mem : ∃ n, n ∈ c ∧ l = litN n) (all : ∀ n, n ∈ c → litN n = l ∨ st.held.getD (litN n) 0 < 0) :
  Core (F ++ [c]) (Tl (st.trail ++ [l])) (fun _ => False) st.trail.length (st.hold l (-1)) (st.hold l (-1)).W ∧ W4 (st.hold l (-1)) (fun _ _ => False) := by
 obtain ⟨n, hn, rfl⟩ := mem
 have hl : intL (litN n) = n := intL_lit (hc n hn).1
 have hder : Der (F ++ [c]) (fun _ => False) (intL (litN n)) := by
  rw [hl]
  refine .unit (c := c) (by simp) hn (fun m hm hne => ?_)
  rcases all m hm with e | e
  ·exact absurd (litN_inj (hc m hm).1 (hc n hn).1 e) hne
  ·exact (h.bk.sound _ (h.hd.notL (hc m hm).1 (hc m hm).2 e)).more c
 have hsub : ∀ x, Tl st.trail x → Tl (st.trail ++ [litN n]) x := fun x hx => by
  obtain ⟨y, hy, e⟩ := hx
  exact ⟨y, List.mem_append_left _ hy, e⟩
 have hbk : Book (F ++ [c]) (Dof st.cls) (Tl (st.trail ++ [litN n])) := by
  refine ⟨fun x hx => ?_, fun x hx => ?_, fun d hd => ?_, fun x hx => ?_⟩
  ·obtain ⟨y, hy, rfl⟩ := hx
   rcases List.mem_append.1 hy with hy | hy
   ·exact (h.bk.sound _ ⟨y, hy, rfl⟩).more c
   ·rw [List.mem_singleton.1 hy]; exact hder
  ·rcases List.mem_append.1 hx with hx | hx
   ·exact (h.bk.told x hx).mono hsub (fun _ h => h)
   ·rw [List.mem_singleton.1 hx]
    exact .inl ⟨n, hn, litN n, by simp, hl⟩
  ·obtain ⟨x, hx, hk⟩ := h.bk.from_ d hd
   exact ⟨x, List.mem_append_left _ hx, hk.mono hsub⟩
  ·rcases List.mem_append.1 hx with hx | hx
   ·exact h.bk.nz x hx
   ·rw [List.mem_singleton.1 hx]; exact fun l hl => (hc l hl).1
 have hco : Core (F ++ [c]) (Tl (st.trail ++ [litN n])) (fun _ => False) st.trail.length st st.W :=
  ⟨h.wd, h.hd, h.rs, Nat.le_refl _, by rw [List.take_length]; exact h.w5, hbk, fun y hy => (h.bk.sound _ ⟨y, hy, rfl⟩).more c⟩
 exact ⟨hco.hold hlt zero (-1) ⟨by omega, .inl (by omega)⟩ hder, h.w4.hold h.hd _ (-1)⟩
theorem clash_of {F : List (List Int)} {L A : Int → Prop} {b : Nat} {st : St} {W : Nat → Nat → List (Nat × Nat)} (hc : Core F L A b st W) {ci : Nat} {c' : BC} (hci : st.cls[ci]? = some c') (hm : ∀ m, m ∈ c'.l → oppN m ∈ st.trail) : Clash F A :=
 hc.bk.clash (d := c'.l.map intL) (List.mem_map.2 ⟨c', List.mem_of_getElem? hci, rfl⟩) (fun m h => by
  obtain ⟨z, hz, rfl⟩ := List.mem_map.1 h
  rw [← intL_opp]
  exact hc.so _ (hm z hz))
def St.push (st : St) (c : BC) : St := { st with cls := st.cls ++ [c] }
theorem push_get {cls : List BC} {nc d : BC} {j : Nat} (h : (cls ++ [nc])[j]? = some d) : (j = cls.length ∧ d = nc) ∨ (j < cls.length ∧ cls[j]? = some d) := by
 by_cases e : j < cls.length
 ·rw [List.getElem?_append_left e] at h; exact .inr ⟨e, h⟩
 ·have h1 := (List.getElem?_eq_some_iff.1 h).1
  have e2 : j = cls.length := by simp at h1; omega
  subst e2
  simp at h
  exact .inl ⟨rfl, h.symm⟩
theorem push_old {cls : List BC} {nc d : BC} {j : Nat} (h : cls[j]? = some d) : (cls ++ [nc])[j]? = some d := by
 rw [List.getElem?_append_left (List.getElem?_eq_some_iff.1 h).1]; exact h
theorem Rest.push {F : List (List Int)} {st : St} (h : Rest F st) {c : List Int} (hc : ∀ n, n ∈ c → n ≠ 0 ∧ n.natAbs ≤ st.V) {op : List Nat} (nd : op.Nodup) (lt : ∀ y, y ∈ op → y < 2 * st.V) (zero : ∀ y, y ∈ op → st.held.getD y 0 = 0) (mem : ∀ y, y ∈ op → ∃ n, n ∈ c ∧ y = litN n) (all : ∀ n, n ∈ c → litN n ∈ op ∨ st.held.getD (litN n) 0 < 0) {l0 l1 : Nat} (h0 : op[0]? = some l0) (h1 : op[1]? = some l1) (rd : Nat) :
  Rest (F ++ [c]) ((((st.push ⟨op, 2, 0, rd⟩).tierAt st.cls.length 0).addW 0 l0 (st.cls.length, l1)).addW 0 l1 (st.cls.length, l0)) := by
 have hne : l0 ≠ l1 := fun e => by subst e; have := nodup_get nd h0 h1; omega
 have hlen2 : 2 ≤ op.length := by have := (List.getElem?_eq_some_iff.1 h1).1; omega
 have hcn : (st.cls ++ [(⟨op, 2, 0, rd⟩ : BC)])[st.cls.length]? = some ⟨op, 2, 0, rd⟩ := by simp
 obtain ⟨a1, a2, a3, a4, a5⟩ := Wd.watch (V := st.V) (W := st.W) hcn (t := 0) (by decide) h0 h1 hne
  (fun j d hd => by
   rcases push_get hd with ⟨rfl, rfl⟩ | ⟨_, hd⟩
   ·exact ⟨hlen2, nd, lt, (show (0 : Nat) < 2 by decide), Nat.le_refl _, hlen2⟩
   ·exact h.wd.two j d hd)
  (fun j d u hj hd hu => by
   rcases push_get hd with ⟨e, rfl⟩ | ⟨_, hd⟩
   ·exact absurd e hj
   ·exact .inl (h.wd.has j d u hd hu))
  (fun t' l j o hm => by
   obtain ⟨d, hd, q1, q2, q3⟩ := h.wd.own t' l j o hm
   exact ⟨d, push_old hd, q1, q2, q3⟩)
  h.wd.nd
  (fun l o hm => by
   obtain ⟨d, hd, _⟩ := h.wd.own 0 l _ o hm
   have := (List.getElem?_eq_some_iff.1 hd).1
   omega)
  (fun e => absurd rfl e)
 have hml : ((st.cls ++ [(⟨op, 2, 0, rd⟩ : BC)]).modify st.cls.length fun c => { c with tier := 0 }).map BC.l = st.cls.map BC.l ++ [op] := by
  rw [map_mod_l _ _ (fun c : BC => { c with tier := 0 }) (fun _ => rfl)]; simp
 have hln : ((st.cls ++ [(⟨op, 2, 0, rd⟩ : BC)]).modify st.cls.length fun c => { c with tier := 0 }).length = st.cls.length + 1 := by simp
 refine ⟨⟨a1, fun j d u hd hu => ?_, a3, a4⟩, ⟨h.hd.heldL, h.hd.held, h.hd.tlt, h.hd.tnd, h.hd.cons, h.hd.l0, h.hd.l1⟩, fun r hr => ?_, fun j d u hd hu hu2 => ?_, ?_, h.lk0, h.lk1⟩
 ·rcases a2 j d u hd hu with h5 | h5
  ·exact h5
  ·have h6 := (List.getElem?_eq_some_iff.1 hd).1
   have : j < st.cls.length + 1 := by rw [← hln]; exact h6
   omega
 ·have h6 := h.rs r hr
  refine ⟨h6.1, ?_⟩
  have : (((((st.push ⟨op, 2, 0, rd⟩).tierAt st.cls.length 0).addW 0 l0 (st.cls.length, l1)).addW 0 l1 (st.cls.length, l0)).cls.length : Int) = (st.cls.length : Int) + 1 := by
   show ((((st.cls ++ [(⟨op, 2, 0, rd⟩ : BC)]).modify st.cls.length fun c => { c with tier := 0 }).length : Nat) : Int) = _
   rw [hln]; omega
  rw [this]
  omega
 ·rcases mod_get hd with ⟨rfl, d', hd', rfl⟩ | ⟨hj, hd'⟩
  ·have hd'' := hcn.symm.trans hd'
   cases hd''
   have hu3 : u ∈ op := wt.mem hu
   have h7 := zero u hu3
   have h8 := (h.hd.neg (lt u hu3)).2 hu2
   omega
  ·rcases push_get hd' with ⟨e, rfl⟩ | ⟨_, hd2⟩
   ·exact absurd e hj
   ·exact h.w5 j d u hd2 hu hu2
 ·have e : Dof ((st.cls ++ [(⟨op, 2, 0, rd⟩ : BC)]).modify st.cls.length fun c => { c with tier := 0 }) = Dof st.cls ++ [op.map intL] := by
   have := congrArg (List.map (List.map intL)) hml
   rw [List.map_map, List.map_append, List.map_map] at this
   exact this
  have hk : Kept (Tl st.trail) c (op.map intL) := by
   refine ⟨fun m hm => ?_, fun m hm hn => ?_⟩
   ·obtain ⟨y, hy, rfl⟩ := List.mem_map.1 hm
    obtain ⟨n, hn, rfl⟩ := mem y hy
    rw [intL_lit (hc n hn).1]; exact hn
   ·rcases all m hm with h9 | h9
    ·exact absurd (List.mem_map.2 ⟨litN m, h9, intL_lit (hc m hm).1⟩) hn
    ·exact h.hd.notL (hc m hm).1 (hc m hm).2 h9
  have := h.bk.keep hk (fun l hl => (hc l hl).1)
  rw [← e] at this
  exact this
end Go.Proofs.Ytefjicdhccfieaa

set_option maxRecDepth 100000
set_option maxHeartbeats 16000000
namespace Go.Proofs.Ytefjicdhccfieaa
open Go.RowKit
theorem fol_der {F : List (List Int)} {c : List Int} {n : Int} (hn : n ∈ c) (h : Der F (fun l => -l ∈ c) n) : Fol F c := by
 cases h with
 | asm h => exact .inl ⟨n, hn, h⟩
 | unit h1 h2 h3 =>
  refine .inr ⟨_, h1, fun m hm => ?_⟩
  by_cases e : m = n
  ·subst e; exact .asm (by rw [Int.neg_neg]; exact hn)
  ·exact h3 m hm e
theorem tl_cons {st : St} (h : Hd st) : Cons (Tl st.trail) := by
 rintro l ⟨y, hy, rfl⟩ ⟨z, hz, e⟩
 rw [← intL_opp] at e
 rw [intL_inj e] at hz
 exact h.cons y hy hz
theorem tl_opp {T : List Nat} {u : Nat} (h : Tl T (-intL u)) : oppN u ∈ T := by
 obtain ⟨z, hz, e⟩ := h
 rw [← intL_opp] at e
 rw [← intL_inj e]; exact hz
theorem not_fol {F : List (List Int)} {L : Int → Prop} {b : Nat} {st : St} {c : List Int} (hc : Core F L (fun l => -l ∈ c) b st st.W) (h4 : W4 st (fun _ _ => False)) (h0 : st.lk0 = st.trail.length) (h1 : st.lk1 = st.trail.length) (hL : ∀ l, L l → Tl st.trail l) (hcn : ∀ n, n ∈ c → n ≠ 0) (hA : ∀ n, n ∈ c → oppN (litN n) ∈ st.trail) : ¬ Fol F c := by
 have hcons := tl_cons hc.hd
 have hS : ∀ n, n ∈ c → Tl st.trail (-n) := fun n hn => ⟨_, hA n hn, by rw [intL_opp, intL_lit (hcn n hn)]⟩
 rintro (⟨l, h2, h3⟩ | h2)
 ·have := hS _ h3
  rw [Int.neg_neg] at this
  exact hcons l this (hS l h2)
 ·refine rests_quiet hc.bk hL (fun l hl => ?_) hcons (fun d hd => ?_) h2
  ·have := hS _ hl
   rw [Int.neg_neg] at this
   exact this
  ·obtain ⟨c', hc', rfl⟩ := List.mem_map.1 hd
   obtain ⟨i, hi⟩ := List.getElem?_of_mem hc'
   obtain ⟨q1, q2, q3, q4, q5, q6⟩ := hc.wd.two i c' hi
   obtain ⟨u0, hu0⟩ := getElem_lt (show 0 < c'.l.length by omega)
   obtain ⟨u1, hu1⟩ := getElem_lt (show 1 < c'.l.length by omega)
   have hne : u0 ≠ u1 := fun e => by subst e; have := nodup_get q2 hu0 hu1; omega
   have key : ∀ u, wt c' u → oppN u ∈ st.trail → Rests (Tl st.trail) (c'.l.map intL) := fun u hw hu => by
    rcases h4 i c' u hi hw (by rw [h0, h1]; split <;> (rw [List.take_length]; exact hu)) with ⟨y, hy, ht⟩ | h
    ·exact .inl ⟨intL y, List.mem_map.2 ⟨y, hy, rfl⟩, y, ht, rfl⟩
    ·exact h.elim
   by_cases e0 : oppN u0 ∈ st.trail
   ·exact key u0 (.inl hu0) e0
   ·by_cases e1 : oppN u1 ∈ st.trail
    ·exact key u1 (.inr hu1) e1
    ·exact .inr ⟨intL u0, intL u1, List.mem_map.2 ⟨u0, List.mem_of_getElem? hu0, rfl⟩, List.mem_map.2 ⟨u1, List.mem_of_getElem? hu1, rfl⟩, fun e => hne (intL_inj e), fun h => e0 (tl_opp h), fun h => e1 (tl_opp h)⟩
structure FolI (F : List (List Int)) (st0 : St) (c : List Int) (k : Nat) (st : St) : Prop where
 co : Core F (Tl st0.trail) (fun l => -l ∈ c) st0.trail.length st st.W
 w4 : W4 st (fun _ _ => False)
 wn : WnP st0 st
 all : ∀ n, n ∈ c.take k → oppN (litN n) ∈ st.trail
theorem FolI.zero {F : List (List Int)} {st : St} (h : Rest F st) (c : List Int) : FolI F st c 0 st := ⟨h.core _, h.w4, WnP.refl st, fun n hn => by simp at hn⟩
theorem FolI.skip {F : List (List Int)} {st0 st : St} {c : List Int} {k : Nat} (h : FolI F st0 c k st) {n : Int} (hk : c[k]? = some n) (h0 : n ≠ 0) (hn : n.natAbs ≤ st.V) (hneg : st.held.getD (litN n) 0 < 0) : FolI F st0 c (k + 1) st := by
 refine ⟨h.co, h.w4, h.wn, fun m hm => ?_⟩
 rw [take_next c k n hk] at hm
 rcases List.mem_append.1 hm with hm | hm
 ·exact h.all m hm
 ·rw [List.mem_singleton.1 hm]
  exact (h.co.hd.neg (litN_lt h0 hn)).1 hneg
theorem FolI.next {F : List (List Int)} {st0 st : St} {c : List Int} {k : Nat} (h : FolI F st0 c k st) {n : Int} (hk : c[k]? = some n) (h0 : n ≠ 0) (hn : n.natAbs ≤ st.V) (hz : st.held.getD (litN n) 0 = 0) : FolI F st0 c (k + 1) (st.hold (oppN (litN n)) (-1)) := by
 have hV := litN_lt h0 hn
 have hz2 : st.held.getD (oppN (litN n)) 0 = 0 := by rw [h.co.hd.even _ hV, hz]; rfl
 have hA : Der F (fun l => -l ∈ c) (intL (oppN (litN n))) := by
  rw [intL_opp, intL_lit h0]
  exact .asm (by rw [Int.neg_neg]; exact List.mem_of_getElem? hk)
 refine ⟨h.co.hold (oppN_lt hV) hz2 (-1) ⟨by omega, .inl (by omega)⟩ hA, h.w4.hold h.co.hd _ (-1), h.wn.trans (WnR.hold _ _ _).p, fun m hm => ?_⟩
 rw [take_next c k n hk] at hm
 simp only [St.hold]
 rcases List.mem_append.1 hm with hm | hm
 ·exact List.mem_append_left _ (h.all m hm)
 ·rw [List.mem_singleton.1 hm]; simp
theorem WnP.take {st st' : St} (h : WnP st st') : st'.trail.take st.trail.length = st.trail := by
 obtain ⟨e, he⟩ := h.tr
 rw [he, List.take_left]
theorem rest_back {F : List (List Int)} {st0 st : St} {A : Int → Prop} (hc : Core F (Tl st0.trail) A st0.trail.length st st.W) (hw : st.trail.take st0.trail.length = st0.trail) : Rest F (st.forget st0.trail.length) :=
 rest_forget hc (by rw [hw])
structure Good (F : List (List Int)) (st : St) : Prop where
 wd : Wd st.V st.cls st.W
 rd : ∀ c, c ∈ st.cls → c.round ≤ st.round
 tn : st.trail.length ≤ 200000
 yes : st.done = true → Clash F (fun _ => False)
 no : st.done = false → Rest F st
theorem Good.of {F : List (List Int)} {st : St} (hV : st.V ≤ 100000) (hd : st.done = false) (h : Rest F st) (rd : ∀ c, c ∈ st.cls → c.round ≤ st.round) : Good F st :=
 ⟨h.wd, rd, by have := h.hd.len; omega, fun e => (by rw [hd] at e; cases e), fun _ => h⟩
theorem rd_of {st st' : St} (h : st'.cls.map BC.round = st.cls.map BC.round) (hr : st'.round = st.round) (rd : ∀ c, c ∈ st.cls → c.round ≤ st.round) : ∀ c, c ∈ st'.cls → c.round ≤ st'.round := by
 intro c hc
 have : c.round ∈ st'.cls.map BC.round := List.mem_map.2 ⟨c, hc, rfl⟩
 rw [h] at this
 obtain ⟨d, hd, e⟩ := List.mem_map.1 this
 rw [hr, ← e]; exact rd d hd
structure EndI (st : St) (i : Nat) (st' : St) : Prop where
 V : st'.V = st.V
 held : st'.held = st.held
 reason : st'.reason = st.reason
 used : st'.used = st.used
 trail : st'.trail = st.trail
 lk0 : st'.lk0 = st.lk0
 lk1 : st'.lk1 = st.lk1
 done : st'.done = st.done
 ls : st'.cls.map BC.l = st.cls.map BC.l
 rds : st'.cls.map BC.round = st.cls.map BC.round
 two : ∀ (j : Nat) (d : BC), st'.cls[j]? = some d → 2 ≤ d.l.length ∧ d.l.Nodup ∧ (∀ x, x ∈ d.l → x < 2 * st.V) ∧ d.tier < 2 ∧ 2 ≤ d.next ∧ d.next ≤ d.l.length
 has : ∀ (j : Nat) (d : BC) (u : Nat), j < i → st'.cls[j]? = some d → wt d u → ∃ o, (j, o) ∈ st'.W d.tier u
 own : ∀ t' l j o, (j, o) ∈ st'.W t' l → j < i ∧ ∃ d, st'.cls[j]? = some d ∧ o ∈ d.l ∧ (d.tier = t' → wt d l) ∧ (t' = 0 → d.tier = 0)
 nd : ∀ t' l, ((st'.W t' l).map (·.1)).Nodup
theorem EndI.len {st st' : St} {i : Nat} (h : EndI st i st') : st'.cls.length = st.cls.length := by have := congrArg List.length h.ls; simpa using this
theorem EndI.wlen {st st' : St} {i : Nat} (h : EndI st i st') (t l : Nat) : (st'.W t l).length ≤ st.cls.length := by
 rw [← h.len]
 have := nodup_len (h.nd t l) (n := st'.cls.length) (fun x hx => by
  obtain ⟨⟨j, o⟩, h1, rfl⟩ := List.mem_map.1 hx
  obtain ⟨_, c, hc, _⟩ := h.own t l j o h1
  exact (List.getElem?_eq_some_iff.1 hc).1)
 simpa using this
theorem map_mod_r (cls : List BC) (i : Nat) (f : BC → BC) (hf : ∀ c, (f c).round = c.round) : (cls.modify i f).map BC.round = cls.map BC.round := map_mod cls i f hf
theorem EndI.next {st st' : St} {i : Nat} (h : EndI st i st') {c : BC} (hc : st'.cls[i]? = some c) {t l0 l1 : Nat} (ht : t < 2) (h0 : c.l[0]? = some l0) (h1 : c.l[1]? = some l1) : EndI st (i + 1) (((st'.tierAt i t).addW t l0 (i, l1)).addW t l1 (i, l0)) := by
 obtain ⟨q1, q2, q3, q4, q5, q6⟩ := h.two i c hc
 have hne : l0 ≠ l1 := fun e => by subst e; have := nodup_get q2 h0 h1; omega
 obtain ⟨a1, a2, a3, a4, a5⟩ := Wd.watch (V := st.V) (W := st'.W) hc ht h0 h1 hne h.two
  (fun j d u hj hd hu => by
   by_cases e : j < i
   ·exact .inl (h.has j d u e hd hu)
   ·exact .inr (by omega))
  (fun t' l j o hm => (h.own t' l j o hm).2) h.nd
  (fun l o hm => by have := (h.own t l i o hm).1; omega)
  (fun _ l o hm => by have := (h.own 0 l i o hm).1; omega)
 refine ⟨h.V, h.held, h.reason, h.used, h.trail, h.lk0, h.lk1, h.done, ?_, ?_, a1, fun j d u hj hd hu => ?_, fun t' l j o hm => ?_, a4⟩
 ·exact (map_mod_l _ _ (fun c : BC => { c with tier := t }) (fun _ => rfl)).trans h.ls
 ·exact (map_mod_r _ _ (fun c : BC => { c with tier := t }) (fun _ => rfl)).trans h.rds
 ·rcases a2 j d u hd hu with h5 | h5
  ·exact h5
  ·omega
 ·refine ⟨?_, a3 t' l j o hm⟩
  rcases a5 t' l j o hm with h5 | h5
  ·have := (h.own t' l j o h5).1; omega
  ·omega
theorem EndI.last {F : List (List Int)} {st st' : St} (h : EndI st st.cls.length st') (g : Good F st) (hr : st.round ≤ st'.round) : Good F st' := by
 have hw : Wd st'.V st'.cls st'.W := ⟨by rw [h.V]; exact h.two, fun j d u hd hu => h.has j d u (by rw [← h.len]; exact (List.getElem?_eq_some_iff.1 hd).1) hd hu, fun t' l j o hm => (h.own t' l j o hm).2, h.nd⟩
 refine ⟨hw, fun c hc => ?_, by rw [h.trail]; exact g.tn, fun e => g.yes (by rw [← h.done]; exact e), fun e => (g.no (by rw [← h.done]; exact e)).like h.V h.held h.reason h.trail h.lk0 h.lk1 h.ls hw⟩
 have : c.round ∈ st'.cls.map BC.round := List.mem_map.2 ⟨c, hc, rfl⟩
 rw [h.rds] at this
 obtain ⟨d, hd, e⟩ := List.mem_map.1 this
 have := g.rd d hd
 omega
theorem Good.count {F : List (List Int)} {st : St} (g : Good F st) (s : Nat) : Good F { st with steps := s } :=
 ⟨g.wd, g.rd, g.tn, g.yes, fun e => (g.no e).like rfl rfl rfl rfl rfl rfl rfl g.wd⟩
theorem EndI.first {F : List (List Int)} {st : St} (g : Good F st) (r s : Nat) : EndI st 0 { st with W := fun _ _ => [], round := r, steps := s } :=
 ⟨rfl, rfl, rfl, rfl, rfl, rfl, rfl, rfl, rfl, rfl, g.wd.two, fun j d u hj => absurd hj (by omega), fun t' l j o hm => (by cases hm), fun t' l => List.nodup_nil⟩
end Go.Proofs.Ytefjicdhccfieaa

set_option maxRecDepth 100000
set_option maxHeartbeats 16000000
namespace Go.Proofs.Ytefjicdhccfieaa
open Go.RowKit
theorem BD.fld {B : Nat} {w : World} {bb : Nat} {st : St} (h : BD B w bb st) : w.cell? ⟨bb, 9, none⟩ = some (.bool st.done) ∧ w.cell? ⟨bb, 10, none⟩ = some (.int .i64 (st.round : Int)) ∧ w.cell? ⟨bb, 11, none⟩ = some (.int .i64 (st.steps : Int)) ∧ ∀ j, w.frozen? ⟨bb, j, none⟩ = false := by
 obtain ⟨sl, R, L⟩ := h
 exact ⟨R.field 9, R.field 10, R.field 11, R.soft⟩
theorem BD.hV {B : Nat} {w : World} {bb : Nat} {st : St} (h : BD B w bb st) : st.V ≤ 100000 := by
 obtain ⟨sl, R, L⟩ := h
 exact L.hV
theorem BD.size {B : Nat} {w : World} {bb : Nat} {st : St} (h : BD B w bb st) : B ≤ w.heap.size := by
 obtain ⟨sl, R, L⟩ := h
 exact R.size
theorem BD.rest {B : Nat} {w w' : World} {bb : Nat} {st : St} (h : BD B w bb st) (hb : Below w.heap.size w w') : BD B w' bb st := by
 obtain ⟨sl, R, L⟩ := h
 exact ⟨sl, R.rest hb, L⟩
theorem BD.setF {B : Nat} {w : World} {bb : Nat} {st : St} (h : BD B w bb st) (st' : St) (j : Nat) (u : Value) (hf : ∀ sl, fields sl st' = (fields sl st).setIfInBounds j u) (hl : ∀ sl, Link sl st → Link sl st') : BD B (w.setCell ⟨bb, j, none⟩ u) bb st' ∧ Below B w (w.setCell ⟨bb, j, none⟩ u) := by
 obtain ⟨sl, R, L⟩ := h
 refine ⟨⟨sl, ?_, hl sl L⟩, setTo (Below.refl _ _) R.base R.size⟩
 rw [hf]; exact R.setB j u
theorem BD.steps {B : Nat} {w : World} {bb : Nat} {st : St} (h : BD B w bb st) (s : Nat) (z : Int) (hz : z = s) : BD B (w.setCell ⟨bb, 11, none⟩ (.int .i64 z)) bb { st with steps := s } ∧ Below B w (w.setCell ⟨bb, 11, none⟩ (.int .i64 z)) := by
 subst hz
 exact h.setF _ 11 _ (fun sl => by simp [fields]) (fun sl L => ⟨L.hV, L.held, L.heldL, L.reason, L.reasonL, L.used, L.usedL, L.trail, L.clsN, L.cls, L.lits, L.row, L.wl⟩)
theorem BD.rounds {B : Nat} {w : World} {bb : Nat} {st : St} (h : BD B w bb st) (s : Nat) (z : Int) (hz : z = s) : BD B (w.setCell ⟨bb, 10, none⟩ (.int .i64 z)) bb { st with round := s } ∧ Below B w (w.setCell ⟨bb, 10, none⟩ (.int .i64 z)) := by
 subst hz
 exact h.setF _ 10 _ (fun sl => by simp [fields]) (fun sl L => ⟨L.hV, L.held, L.heldL, L.reason, L.reasonL, L.used, L.usedL, L.trail, L.clsN, L.cls, L.lits, L.row, L.wl⟩)
theorem BD.dones {B : Nat} {w : World} {bb : Nat} {st : St} (h : BD B w bb st) (b : Bool) : BD B (w.setCell ⟨bb, 9, none⟩ (.bool b)) bb { st with done := b } ∧ Below B w (w.setCell ⟨bb, 9, none⟩ (.bool b)) :=
 h.setF _ 9 _ (fun sl => by simp [fields]) (fun sl L => ⟨L.hV, L.held, L.heldL, L.reason, L.reasonL, L.used, L.usedL, L.trail, L.clsN, L.cls, L.lits, L.row, L.wl⟩)
theorem BD.reW {B : Nat} {w : World} {bb : Nat} {st : St} (h : BD B w bb st) (W' : Nat → Nat → List (Nat × Nat)) (hW : ∀ t l, t < 2 → l < 2 * st.V → W' t l = st.W t l) : BD B w bb { st with W := W' } := by
 obtain ⟨sl, R, L⟩ := h
 exact ⟨sl, R, L.hV, L.held, L.heldL, L.reason, L.reasonL, L.used, L.usedL, L.trail, L.clsN, L.cls, L.lits, L.row, fun t l ht hl => by dsimp only; rw [hW t l ht hl]; exact L.wl t l ht hl⟩
theorem BD.lens {B : Nat} {w : World} {bb : Nat} {st : St} (h : BD B w bb st) : (∃ a c, w.cell? ⟨bb, 3, none⟩ = some (.slice a (2 * st.V) c)) ∧ (∃ a c, w.cell? ⟨bb, 0, none⟩ = some (.slice a st.cls.length c)) := by
 obtain ⟨sl, R, L⟩ := h
 constructor
 ·have f := R.field 3
  have hr := R.rows .held
  rw [L.held.1] at hr
  rcases hr.2 with ⟨h1, h2⟩ | ⟨g, cap, cur, h1, _⟩
  ·exact ⟨none, 0, by rw [f, h2]; show some (sl .held).v = _; rw [h1]⟩
  ·exact ⟨_, cap, by rw [f]; show some (sl .held).v = _; rw [h1]⟩
 ·have f := R.field 0
  have hr := R.rows .clauses
  rw [L.clsN] at hr
  rcases hr.2 with ⟨h1, h2⟩ | ⟨g, cap, cur, h1, _⟩
  ·exact ⟨none, 0, by rw [f, h2]; show some (sl .clauses).v = _; rw [h1]⟩
  ·exact ⟨_, cap, by rw [f]; show some (sl .clauses).v = _; rw [h1]⟩
def BDR (B : Nat) (w : World) (bb : Nat) (st : St) (t : Nat) (RV : Value) : Prop := ∃ sl, Rows' B w bb (fields sl st) sl ∧ Link sl st ∧ (sl (.row t)).v = RV
theorem BDR.bd {B : Nat} {w : World} {bb : Nat} {st : St} {t : Nat} {RV : Value} (h : BDR B w bb st t RV) : BD B w bb st := by
 obtain ⟨sl, R, L, _⟩ := h
 exact ⟨sl, R, L⟩
theorem BD.row {B : Nat} {w : World} {bb : Nat} {st : St} (h : BD B w bb st) {t : Nat} (ht : t < 2) : ∃ a c, BDR B w bb st t (.slice a (2 * st.V) c) ∧ w.cell? ⟨bb, 1 + t, none⟩ = some (.slice a (2 * st.V) c) := by
 obtain ⟨sl, R, L⟩ := h
 have f : w.cell? ⟨bb, 1 + t, none⟩ = some (sl (.row t)).v := by
  rw [R.field]
  rcases (show t = 0 ∨ t = 1 by omega) with rfl | rfl <;> rfl
 have hr := R.rows (.row t)
 rw [(L.row t ht).1] at hr
 rcases hr.2 with ⟨h1, h2⟩ | ⟨g, cap, cur, h1, _⟩
 ·exact ⟨none, 0, by rw [h2, ← h1]; exact ⟨sl, R, L, rfl⟩, by rw [f, h1, h2]⟩
 ·exact ⟨_, cap, by rw [← h1]; exact ⟨sl, R, L, rfl⟩, by rw [f, h1]⟩
theorem BDR.rowF {B : Nat} {w : World} {bb : Nat} {st : St} {t : Nat} {RV : Value} (h : BDR B w bb st t RV) (ht : t < 2) : w.cell? ⟨bb, 1 + t, none⟩ = some RV := by
 obtain ⟨sl, R, L, rfl⟩ := h
 rw [R.field]
 rcases (show t = 0 ∨ t = 1 by omega) with rfl | rfl <;> rfl
theorem BDR.addr {B : Nat} {w : World} {bb : Nat} {st : St} {t : Nat} {a : Option Addr} {n c : Nat} (h : BDR B w bb st t (.slice a n c)) (ht : t < 2) (hV : 0 < st.V) : ∃ rb, a = some ⟨rb, 0, none⟩ ∧ rb ≠ bb := by
 obtain ⟨sl, R, L, e⟩ := h
 obtain ⟨rb, rcap, hv, _⟩ := R.form (.row t) (by rw [(L.row t ht).1]; omega)
 have hv' := hv
 rw [e] at hv'
 have : a = some ⟨rb, 0, none⟩ := by injection hv'
 exact ⟨rb, this, fun e2 => R.nb (.row t) (by rw [hv, e2]; rfl)⟩
theorem BDR.cut {B : Nat} {w : World} {bb : Nat} {st : St} {t rb n c : Nat} (h : BDR B w bb st t (.slice (some ⟨rb, 0, none⟩) n c)) (ht : t < 2) {l : Nat} (hl : l < 2 * st.V) : ∃ v, w.cell? ⟨rb, l, none⟩ = some v ∧ w.frozen? ⟨rb, l, none⟩ = false ∧ ((v = .slice none 0 0 ∧ ∀ w', Below w.heap.size w w' → BDR B (w'.setCell ⟨rb, l, none⟩ (.slice none 0 0)) bb (st.putW t l []) t (.slice (some ⟨rb, 0, none⟩) n c) ∧ Below B w (w'.setCell ⟨rb, l, none⟩ (.slice none 0 0))) ∨
  ∃ gb m cap, v = .slice (some ⟨gb, 0, none⟩) m cap ∧ m ≤ cap ∧ ∀ w', Below w.heap.size w w' → BDR B (w'.setCell ⟨rb, l, none⟩ (.slice (some ⟨gb, 0, none⟩) 0 cap)) bb (st.putW t l []) t (.slice (some ⟨rb, 0, none⟩) n c) ∧ Below B w (w'.setCell ⟨rb, l, none⟩ (.slice (some ⟨gb, 0, none⟩) 0 cap))) := by
 obtain ⟨sl, R, L, e⟩ := h
 obtain ⟨hn, hrow⟩ := L.row t ht
 obtain ⟨rb', rcap, hv, hB, hlt, _, hcell, hfz⟩ := R.form (.row t) (by rw [hn]; omega)
 have hv' := hv
 rw [e] at hv'
 have e1 : rb = rb' := by injection hv' with h1; injection h1 with h1; injection h1
 subst e1
 have hc : w.cell? ⟨rb, l, none⟩ = some (sl (.wl t l)).v := by
  rw [hcell l (by rw [hn]; simp [Site.sz]; omega)]; exact hrow l hl
 have key : ∀ (u : Value) (w' : World), Below w.heap.size w w' → Rows' B w bb (fields sl st) (setS sl (.wl t l) ⟨u, 0, []⟩) → BDR B (w'.setCell ⟨rb, l, none⟩ u) bb (st.putW t l []) t (.slice (some ⟨rb, 0, none⟩) n c) ∧ Below B w (w'.setCell ⟨rb, l, none⟩ u) := fun u w' hb R1 => by
  have e0 : (setS sl (.wl t l) ⟨u, 0, []⟩) (.row t) = sl (.row t) := setS_other _ _ (by intro e; cases e)
  have R2 := (R1.rest hb).setR (.row t) (g := rb) (cap := rcap) (by rw [e0]; exact hv) l u
  rw [e0] at R2
  have L2 := L.putW t l [] u
  refine ⟨⟨_, ?_, L2, by rw [setS_same]; exact e⟩, setTo (hb.mono R.size) hB (Nat.le_trans R.size hb.size)⟩
  have ef : fields (setS (setS sl (.wl t l) ⟨u, 0, []⟩) (.row t) ⟨(sl (.row t)).v, (sl (.row t)).n, (sl (.row t)).xs.set l u⟩) (st.putW t l []) = fields sl st := fields_addW sl st t l (0, 0) _ _ _
  show Rows' B _ bb (fields (setS (setS sl (.wl t l) ⟨u, 0, []⟩) (.row t) ⟨(sl (.row t)).v, (sl (.row t)).n, (sl (.row t)).xs.set l u⟩) (st.putW t l [])) _
  rw [ef]; exact R2
 refine ⟨_, hc, hfz l, ?_⟩
 have hr := R.rows (.wl t l)
 rcases hr.2 with ⟨h1, h2⟩ | ⟨g, cap, cur, h1, h2, h3, h4, h5, h6⟩
 ·refine .inl ⟨h1, fun w' hb => key _ w' hb ?_⟩
  exact R.grow _ _ (grown_refl' w _) (World.ownsRow_nil _ _ _ _) (fun k hk => by cases hk)
 ·refine .inr ⟨g, _, cap, h1, h4, fun w' hb => key _ w' hb ?_⟩
  have := R.cut (.wl t l) h1 0 (Nat.zero_le _)
  simpa using this
theorem BDR.rest {B : Nat} {w w' : World} {bb : Nat} {st : St} {t : Nat} {RV : Value} (h : BDR B w bb st t RV) (hb : Below w.heap.size w w') : BDR B w' bb st t RV := by
 obtain ⟨sl, R, L, e⟩ := h
 exact ⟨sl, R.rest hb, L, e⟩
theorem Bd.cv {B : Nat} {w : World} {bb : Nat} {st : St} {X : Slot} {CV : Value} (h : Bd B w bb st X CV) : ∃ a c, CV = .slice a st.cls.length c ∧ w.cell? ⟨bb, 0, none⟩ = some CV := by
 obtain ⟨sl, R, L, _, e⟩ := h
 have f : w.cell? ⟨bb, 0, none⟩ = some (sl .clauses).v := R.field 0
 have hr := R.rows .clauses
 rw [L.clsN] at hr
 rcases hr.2 with ⟨h1, h2⟩ | ⟨g, cap, cur, h1, _⟩
 ·exact ⟨none, 0, by rw [h2, ← e, h1], by rw [f, e]⟩
 ·exact ⟨_, cap, by rw [← e, h1], by rw [f, e]⟩
theorem Bd.clause4 {B : Nat} {w : World} {bb : Nat} {st : St} {X : Slot} {CV : Value} (h : Bd B w bb st X CV) {i : Nat} {c : BC} (hc : st.cls[i]? = some c) : ∃ cb ccap la ln lc, CV = .slice (some ⟨cb, 0, none⟩) st.cls.length ccap ∧ w.cell? ⟨cb, i * 4, none⟩ = some (.slice la ln lc) ∧ w.cell? ⟨cb, i * 4 + 1, none⟩ = some (.int .i64 (c.next : Int)) ∧ w.cell? ⟨cb, i * 4 + 2, none⟩ = some (.int .i64 (c.tier : Int)) ∧ w.cell? ⟨cb, i * 4 + 3, none⟩ = some (.int .i64 (c.round : Int)) := by
 obtain ⟨sl, R, L, _, e⟩ := h
 have hil : i < st.cls.length := (List.getElem?_eq_some_iff.1 hc).1
 obtain ⟨q0, q1, q2, q3⟩ := L.cls i c hc
 obtain ⟨cb, ccap, hcv, _, _, _, hccell, _⟩ := R.form .clauses (by rw [L.clsN]; omega)
 obtain ⟨la, ln, lc, hlv⟩ : ∃ la ln lc, (sl (.lits i)).v = .slice la ln lc := by
  rcases (R.rows (.lits i)).2 with ⟨h1, _⟩ | ⟨g, cap, cur, h1, _⟩
  ·exact ⟨_, _, _, h1⟩
  ·exact ⟨_, _, _, h1⟩
 rw [hlv] at q0
 refine ⟨cb, ccap, la, ln, lc, by rw [← e, hcv, L.clsN], ?_, ?_, ?_, ?_⟩
 ·rw [hccell (i * 4) (by rw [L.clsN]; simp [Site.sz]; omega), Nat.mul_comm]; exact q0
 ·rw [hccell (i * 4 + 1) (by rw [L.clsN]; simp [Site.sz]; omega), Nat.mul_comm]; exact q1
 ·rw [hccell (i * 4 + 2) (by rw [L.clsN]; simp [Site.sz]; omega), Nat.mul_comm]; exact q2
 ·rw [hccell (i * 4 + 3) (by rw [L.clsN]; simp [Site.sz]; omega), Nat.mul_comm]; exact q3
def cutUp (W : Nat → Nat → List (Nat × Nat)) (t l : Nat) : Nat → Nat → List (Nat × Nat) := fun t' l' => if t' < t ∨ (t' = t ∧ l' < l) then [] else W t' l'
theorem cutUp_next (W : Nat → Nat → List (Nat × Nat)) (t l : Nat) : Go.Proofs.Ytefjicdhccfieaa.putW (cutUp W t l) t l [] = cutUp W t (l + 1) := by
 funext t' l'
 unfold Go.Proofs.Ytefjicdhccfieaa.putW cutUp
 by_cases e : t' = t ∧ l' = l
 ·rw [if_pos e, if_pos (by omega)]
 ·rw [if_neg e]
  by_cases e2 : t' < t ∨ (t' = t ∧ l' < l)
  ·rw [if_pos e2, if_pos (by omega)]
  ·rw [if_neg e2, if_neg (by omega)]
theorem cutUp_row (W : Nat → Nat → List (Nat × Nat)) (t n t' l' : Nat) (hl : l' < n) : cutUp W (t + 1) 0 t' l' = cutUp W t n t' l' := by
 unfold cutUp
 by_cases e2 : t' < t ∨ (t' = t ∧ l' < n)
 ·rw [if_pos e2, if_pos (by omega)]
 ·rw [if_neg e2, if_neg (by omega)]
theorem cutUp_all (W : Nat → Nat → List (Nat × Nat)) (t' l' : Nat) (h : t' < 2) : ([] : List (Nat × Nat)) = cutUp W 2 0 t' l' := by
 unfold cutUp
 rw [if_pos (by omega)]
theorem cutUp_zero (W : Nat → Nat → List (Nat × Nat)) : cutUp W 0 0 = W := by
 funext t' l'
 unfold cutUp
 rw [if_neg (by omega)]
end Go.Proofs.Ytefjicdhccfieaa
