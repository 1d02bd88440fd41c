import Derived.Test.YtefjicdhccfieaaK01
import Derived.Test.YtefjicdhccfieaaK36
set_option maxRecDepth 100000
set_option maxHeartbeats 16000000
namespace Go.Proofs.Ytefjicdhccfieaa
open Go.RowKit
structure UseR (st st' : St) : Prop where
 V : st'.V = st.V
 held : st'.held = st.held
 reason : st'.reason = st.reason
 trail : st'.trail = st.trail
 lk0 : st'.lk0 = st.lk0
 lk1 : st'.lk1 = st.lk1
 done : st'.done = st.done
 round : st'.round = st.round
 steps : st'.steps = st.steps
 ls : st'.cls.map BC.l = st.cls.map BC.l
 rd : (∀ c, c ∈ st.cls → c.round ≤ st.round) → ∀ c, c ∈ st'.cls → c.round ≤ st'.round
 wd : Wd st.V st.cls st.W → Wd st'.V st'.cls st'.W
theorem UseR.refl (st : St) : UseR st st := ⟨rfl, rfl, rfl, rfl, rfl, rfl, rfl, rfl, rfl, rfl, id, id⟩
theorem UseR.trans {a b c : St} (h : UseR a b) (k : UseR b c) : UseR a c := ⟨k.V.trans h.V, k.held.trans h.held, k.reason.trans h.reason, k.trail.trans h.trail, k.lk0.trans h.lk0, k.lk1.trans h.lk1, k.done.trans h.done, k.round.trans h.round, k.steps.trans h.steps, k.ls.trans h.ls, fun x => k.rd (h.rd x), fun x => k.wd (h.wd x)⟩
theorem UseR.len {a b : St} (h : UseR a b) : b.cls.length = a.cls.length := by have := congrArg List.length h.ls; simpa using this
theorem UseR.get {a b : St} (h : UseR a b) {i : Nat} {c : BC} (hc : b.cls[i]? = some c) : ∃ d, a.cls[i]? = some d ∧ d.l = c.l := by
 have h1 : (b.cls.map BC.l)[i]? = some c.l := by rw [List.getElem?_map, hc]; rfl
 rw [h.ls, List.getElem?_map] at h1
 cases hd : a.cls[i]? with
 | none => rw [hd] at h1; cases h1
 | some d => rw [hd] at h1; exact ⟨d, rfl, by simpa using h1⟩
theorem UseR.core {F : List (List Int)} {L A : Int → Prop} {b : Nat} {st st' : St} (h : UseR st st') (hc : Core F L A b st st.W) : Core F L A b st' st'.W := by
 refine ⟨h.wd hc.wd, ⟨?_, ?_, ?_, ?_, ?_, ?_, ?_⟩, ?_, ?_, ?_, ?_, ?_⟩
 ·rw [h.held, h.V]; exact hc.hd.heldL
 ·rw [h.held, h.V, h.trail]; exact hc.hd.held
 ·rw [h.V, h.trail]; exact hc.hd.tlt
 ·rw [h.trail]; exact hc.hd.tnd
 ·rw [h.trail]; exact hc.hd.cons
 ·rw [h.lk0, h.trail]; exact hc.hd.l0
 ·rw [h.lk1, h.trail]; exact hc.hd.l1
 ·rw [h.reason, h.len]; exact hc.rs
 ·rw [h.trail]; exact hc.bf
 ·rw [h.trail]
  intro i c u h1 h2 h3
  obtain ⟨d, h4, h5⟩ := h.get h1
  obtain ⟨y, h6, h7⟩ := hc.w5 i d u h4 (by unfold wt at h2 ⊢; rw [h5]; exact h2) h3
  exact ⟨y, by rw [← h5]; exact h6, h7⟩
 ·have e : Dof st'.cls = Dof st.cls := by
   have := congrArg (List.map (List.map intL)) h.ls
   rw [List.map_map, List.map_map] at this
   exact this
  rw [e]; exact hc.bk
 ·rw [h.trail]; exact hc.so
theorem map_mod_l (cls : List BC) (i : Nat) (f : BC → BC) (hf : ∀ c, (f c).l = c.l) : (cls.modify i f).map BC.l = cls.map BC.l := by
 apply List.ext_getElem?
 intro j
 rw [List.getElem?_map, List.getElem?_map, List.getElem?_modify]
 cases cls[j]? with
 | none => rfl
 | some c => by_cases e : i = j <;> simp [e, hf]
theorem mem_mod {cls : List BC} {i : Nat} {f : BC → BC} {c : BC} (h : c ∈ cls.modify i f) : ∃ d, d ∈ cls ∧ (c = d ∨ c = f d) := by
 obtain ⟨j, hj⟩ := List.getElem?_of_mem h
 rcases mod_get hj with ⟨_, d, hd, rfl⟩ | ⟨_, hd⟩
 ·exact ⟨d, List.mem_of_getElem? hd, .inr rfl⟩
 ·exact ⟨c, List.mem_of_getElem? hd, .inl rfl⟩
theorem UseR.roundAt (st : St) (i : Nat) : UseR st (st.roundAt i st.round) := by
 refine ⟨rfl, rfl, rfl, rfl, rfl, rfl, rfl, rfl, rfl, map_mod_l _ _ _ (fun _ => rfl), fun h c hc => ?_, fun h => ?_⟩
 ·obtain ⟨d, hd, rfl | rfl⟩ := mem_mod hc
  ·exact h _ hd
  ·exact Nat.le_refl _
 ·by_cases hi : i < st.cls.length
  ·obtain ⟨c, hc⟩ := getElem_lt hi
   obtain ⟨q1, q2, q3, q4, q5, q6⟩ := h.two i c hc
   exact h.turn (f := fun c => { c with round := st.round }) hc (fun m => Iff.rfl) (fun u => Iff.rfl) rfl q2 rfl ⟨q5, q6⟩
  ·have : st.cls.modify i (fun c => { c with round := st.round }) = st.cls := by
    apply List.ext_getElem?
    intro j
    rw [List.getElem?_modify]
    cases hj : st.cls[j]? with
    | none => rfl
    | some c =>
     have := (List.getElem?_eq_some_iff.1 hj).1
     have e : ¬ i = j := by omega
     simp [e]
   show Wd st.V (st.cls.modify i (fun c => { c with round := st.round })) st.W
   rw [this]; exact h
theorem UseR.used (st : St) (u : List Bool) : UseR st { st with used := u } := ⟨rfl, rfl, rfl, rfl, rfl, rfl, rfl, rfl, rfl, rfl, id, id⟩
theorem useL_eq (st : St) (ls : List Nat) : st.useL ls = { st with used := (st.useL ls).used } := by
 unfold St.useL
 induction ls generalizing st with
 | nil => rfl
 | cons a r ih => rw [List.foldl_cons, ih]; rfl
theorem useL_len (st : St) (ls : List Nat) : (st.useL ls).used.length = st.used.length := by
 unfold St.useL
 induction ls generalizing st with
 | nil => rfl
 | cons a r ih => rw [List.foldl_cons, ih]; simp [St.useV]
theorem Link.usedTo {sl : Site → Slot} {st : St} (h : Link sl st) (u : List Bool) (hu : u.length = st.used.length) : Link (setS sl .used ⟨(sl .used).v, (sl .used).n, boolV u⟩) { st with used := u } := by
 refine ⟨h.hV, ?_, h.heldL, ?_, h.reasonL, ?_, by rw [hu]; exact h.usedL, ?_, ?_, ?_, ?_, ?_, ?_⟩
 ·simpa [setS] using h.held
 ·simpa [setS] using h.reason
 ·rw [setS_same]; exact ⟨h.used.1, rfl⟩
 ·simpa [setS] using h.trail
 ·simpa [setS] using h.clsN
 ·intro j c hc
  simpa [setS] using h.cls j c hc
 ·intro j c hc
  simpa [setS] using h.lits j c hc
 ·intro t ht
  simpa [setS] using h.row t ht
 ·intro t l' ht hl
  simpa [setS] using h.wl t l' ht hl
theorem Wd.watch {V : Nat} {cls : List BC} {W : Nat → Nat → List (Nat × Nat)} {i t l0 l1 : Nat} {c : BC} (hc : cls[i]? = some c) (htt : t < 2) (h0 : c.l[0]? = some l0) (h1 : c.l[1]? = some l1) (hne : l0 ≠ l1)
  (two : ∀ (j : Nat) (d : BC), cls[j]? = some d → 2 ≤ d.l.length ∧ d.l.Nodup ∧ (∀ x, x ∈ d.l → x < 2 * V) ∧ d.tier < 2 ∧ 2 ≤ d.next ∧ d.next ≤ d.l.length)
  (has : ∀ (j : Nat) (d : BC) (u : Nat), j ≠ i → cls[j]? = some d → wt d u → (∃ o, (j, o) ∈ W d.tier u) ∨ i < j)
  (own : ∀ t' l j o, (j, o) ∈ W t' l → ∃ d, cls[j]? = some d ∧ o ∈ d.l ∧ (d.tier = t' → wt d l) ∧ (t' = 0 → d.tier = 0))
  (nd : ∀ t' l, ((W t' l).map (·.1)).Nodup) (no : ∀ l o, (i, o) ∉ W t l) (no0 : t ≠ 0 → ∀ l o, (i, o) ∉ W 0 l) :
  (∀ (j : Nat) (d : BC), (cls.modify i fun c => { c with tier := t })[j]? = some d → 2 ≤ d.l.length ∧ d.l.Nodup ∧ (∀ x, x ∈ d.l → x < 2 * V) ∧ d.tier < 2 ∧ 2 ≤ d.next ∧ d.next ≤ d.l.length) ∧
  (∀ (j : Nat) (d : BC) (u : Nat), (cls.modify i fun c => { c with tier := t })[j]? = some d → wt d u → (∃ o, (j, o) ∈ addW (addW W t l0 (i, l1)) t l1 (i, l0) d.tier u) ∨ i < j) ∧
  (∀ t' l j o, (j, o) ∈ addW (addW W t l0 (i, l1)) t l1 (i, l0) t' l → ∃ d, (cls.modify i fun c => { c with tier := t })[j]? = some d ∧ o ∈ d.l ∧ (d.tier = t' → wt d l) ∧ (t' = 0 → d.tier = 0)) ∧
  (∀ t' l, ((addW (addW W t l0 (i, l1)) t l1 (i, l0) t' l).map (·.1)).Nodup) ∧
  (∀ t' l j o, (j, o) ∈ addW (addW W t l0 (i, l1)) t l1 (i, l0) t' l → (j, o) ∈ W t' l ∨ j = i) := by
 have addM : ∀ t' l e, e ∈ addW (addW W t l0 (i, l1)) t l1 (i, l0) t' l → e ∈ W t' l ∨ (t' = t ∧ l = l0 ∧ e = (i, l1)) ∨ (t' = t ∧ l = l1 ∧ e = (i, l0)) := fun t' l e he => by
  unfold addW at he
  by_cases e1 : t' = t ∧ l = l1
  ·rw [if_pos e1, if_neg (by rintro ⟨_, h⟩; exact hne h.symm)] at he
   rcases List.mem_append.1 he with h | h
   ·exact .inl (by rw [e1.1, e1.2]; exact h)
   ·exact .inr (.inr ⟨e1.1, e1.2, List.mem_singleton.1 h⟩)
  ·rw [if_neg e1] at he
   by_cases e2 : t' = t ∧ l = l0
   ·rw [if_pos e2] at he
    rcases List.mem_append.1 he with h | h
    ·exact .inl (by rw [e2.1, e2.2]; exact h)
    ·exact .inr (.inl ⟨e2.1, e2.2, List.mem_singleton.1 h⟩)
   ·rw [if_neg e2] at he; exact .inl he
 have keepM : ∀ t' l e, e ∈ W t' l → e ∈ addW (addW W t l0 (i, l1)) t l1 (i, l0) t' l := fun t' l e he => by
  unfold addW
  by_cases e1 : t' = t ∧ l = l1
  ·rw [if_pos e1, if_neg (by rintro ⟨_, h⟩; exact hne h.symm)]
   rw [e1.1, e1.2] at he; exact List.mem_append_left _ he
  ·rw [if_neg e1]
   by_cases e2 : t' = t ∧ l = l0
   ·rw [if_pos e2]; rw [e2.1, e2.2] at he; exact List.mem_append_left _ he
   ·rw [if_neg e2]; exact he
 have n0 : (i, l1) ∈ addW (addW W t l0 (i, l1)) t l1 (i, l0) t l0 := by
  unfold addW
  rw [if_neg (by rintro ⟨_, h⟩; exact hne h), if_pos ⟨rfl, rfl⟩]; simp
 have n1 : (i, l0) ∈ addW (addW W t l0 (i, l1)) t l1 (i, l0) t l1 := by
  unfold addW
  rw [if_pos ⟨rfl, rfl⟩]; simp
 refine ⟨fun j d hd => ?_, fun j d u hd hu => ?_, fun t' l j o he => ?_, fun t' l => ?_, fun t' l j o he => ?_⟩
 ·rcases mod_get hd with ⟨rfl, d', hd', rfl⟩ | ⟨_, hd'⟩
  ·obtain ⟨q1, q2, q3, q4, q5, q6⟩ := two j d' hd'
   exact ⟨q1, q2, q3, htt, q5, q6⟩
  ·exact two j d hd'
 ·rcases mod_get hd with ⟨rfl, d', hd', rfl⟩ | ⟨hji, hd'⟩
  ·rw [hc] at hd'; cases hd'
   left
   rcases hu with hu | hu
   ·dsimp only at hu
    rw [h0] at hu; cases hu
    exact ⟨l1, n0⟩
   ·dsimp only at hu
    rw [h1] at hu; cases hu
    exact ⟨l0, n1⟩
  ·rcases has j d u hji hd' hu with ⟨o, ho⟩ | ho
   ·exact .inl ⟨o, keepM _ _ _ ho⟩
   ·exact .inr ho
 ·rcases addM t' l _ he with h | ⟨rfl, rfl, h⟩ | ⟨rfl, rfl, h⟩
  ·obtain ⟨d, hd, h2, h3, h4⟩ := own t' l j o h
   by_cases e : j = i
   ·subst e
    rw [hc] at hd; cases hd
    refine ⟨_, mod_same hc, h2, fun e2 => ?_, fun e2 => ?_⟩
    ·have e3 : t = t' := e2
     subst e3
     exact absurd h (no l o)
    ·subst e2
     show t = 0
     by_cases e4 : t = 0
     ·exact e4
     ·exact absurd h (no0 e4 l o)
   ·exact ⟨d, by rw [mod_other e]; exact hd, h2, h3, h4⟩
  ·cases h
   exact ⟨_, mod_same hc, List.mem_of_getElem? h1, fun _ => .inl h0, fun e => e⟩
  ·cases h
   exact ⟨_, mod_same hc, List.mem_of_getElem? h0, fun _ => .inr h1, fun e => e⟩
 ·unfold addW
  by_cases e1 : t' = t ∧ l = l1
  ·rw [if_pos e1, if_neg (by rintro ⟨_, h⟩; exact hne h.symm), List.map_append]
   refine List.nodup_append.2 ⟨nd t l1, by simp, fun y hy z hz e2 => ?_⟩
   simp only [List.map_cons, List.map_nil, List.mem_singleton] at hz
   subst hz
   obtain ⟨⟨j, o⟩, h2, h3⟩ := List.mem_map.1 hy
   dsimp only at h3
   rw [h3, e2] at h2
   exact no l1 o h2
  ·rw [if_neg e1]
   by_cases e2 : t' = t ∧ l = l0
   ·rw [if_pos e2, List.map_append]
    refine List.nodup_append.2 ⟨nd t l0, by simp, fun y hy z hz e3 => ?_⟩
    simp only [List.map_cons, List.map_nil, List.mem_singleton] at hz
    subst hz
    obtain ⟨⟨j, o⟩, h2, h3⟩ := List.mem_map.1 hy
    dsimp only at h3
    rw [h3, e3] at h2
    exact no l0 o h2
   ·rw [if_neg e2]; exact nd t' l
 ·rcases addM t' l _ he with h | ⟨_, _, h⟩ | ⟨_, _, h⟩
  ·exact .inl h
  ·cases h; exact .inr rfl
  ·cases h; exact .inr rfl
theorem UseR.near {st : St} {i : Nat} {c : BC} (hc : st.cls[i]? = some c) (ht : c.tier = 1) {l0 l1 : Nat} (h0 : c.l[0]? = some l0) (h1 : c.l[1]? = some l1) (hne : l0 ≠ l1) : UseR st (((st.tierAt i 0).addW 0 l0 (i, l1)).addW 0 l1 (i, l0)) := by
 refine ⟨rfl, rfl, rfl, rfl, rfl, rfl, rfl, rfl, rfl, map_mod_l _ _ _ (fun _ => rfl), fun h d hd => ?_, fun h => ?_⟩
 ·obtain ⟨d', hd', rfl | rfl⟩ := mem_mod hd
  ·exact h _ hd'
  ·exact h d' hd'
 ·have no : ∀ l o, (i, o) ∉ st.W 0 l := fun l o hm => by
   obtain ⟨d, hd, _, _, h4⟩ := h.own 0 l i o hm
   rw [hc] at hd; cases hd
   have := h4 rfl
   omega
  obtain ⟨a1, a2, a3, a4, a5⟩ := Wd.watch (W := st.W) hc (by decide) h0 h1 hne h.two (fun j d u _ hd hu => .inl (h.has j d u hd hu)) h.own h.nd no (fun e => absurd rfl e)
  refine ⟨a1, fun j d u hd hu => ?_, a3, a4⟩
  rcases mod_get hd with ⟨rfl, d', hd', rfl⟩ | ⟨hji, hd'⟩
  ·rcases a2 j _ u hd hu with h5 | h5
   ·exact h5
   ·omega
  ·obtain ⟨o, ho⟩ := h.has j d u hd' hu
   refine ⟨o, ?_⟩
   show (j, o) ∈ addW (addW st.W 0 l0 (i, l1)) 0 l1 (i, l0) d.tier u
   unfold addW
   by_cases e1 : d.tier = 0 ∧ u = l1
   ·rw [if_pos e1, if_neg (by rintro ⟨_, h⟩; exact hne h.symm)]
    rw [e1.1, e1.2] at ho; exact List.mem_append_left _ ho
   ·rw [if_neg e1]
    by_cases e2 : d.tier = 0 ∧ u = l0
    ·rw [if_pos e2]; rw [e2.1, e2.2] at ho; exact List.mem_append_left _ ho
    ·rw [if_neg e2]; exact ho
end Go.Proofs.Ytefjicdhccfieaa

set_option maxRecDepth 100000
set_option maxHeartbeats 16000000
namespace Go.Proofs.Ytefjicdhccfieaa
open Go.RowKit
theorem use_any (B : Nat) (w : World) (bb : Nat) (st : St) (h : BD B w bb st) (hwd : Wd st.V st.cls st.W) (i : Nat) (c : BC) (hc : st.cls[i]? = some c) (hncl : st.cls.length ≤ 16777216) :
  Calls Try.prog 73 #[.pointer (some ⟨bb, 0, none⟩), .int .i32 (i : Int)] w fun e w' => e = .returned (.tuple #[]) ∧ ∃ st', BD B w' bb st' ∧ UseR st st' ∧ Below B w w' := by
 obtain ⟨X, CV, hb0⟩ := h.bd
 have hV : st.V ≤ 100000 := by
  obtain ⟨_, _, L⟩ := h
  exact L.hV
 have hil : i < st.cls.length := (List.getElem?_eq_some_iff.1 hc).1
 obtain ⟨q1, q2, hlits, q4, q5, q6⟩ := hwd.two i c hc
 have hclen : c.l.length ≤ 200000 := by have := hwd.clen hc; omega
 obtain ⟨cb, ccap, lb0, lcap0, hCVE, hcB, hcbl, hlb0, f0, fl0, ft, fro, hcfz, hlc⟩ := hb0.clause hc (by omega)
 have HCVE := hidden hCVE
 obtain ⟨l0, hl0⟩ := getElem_lt (show 0 < c.l.length by omega)
 obtain ⟨l1, hl1⟩ := getElem_lt (show 1 < c.l.length by omega)
 have hne : l0 ≠ l1 := fun e => by subst e; have := nodup_get q2 hl0 hl1; omega
 have hV0 : 0 < st.V := by have := hlits l0 (List.mem_of_getElem? hl0); omega
 obtain ⟨cn, HCN⟩ : ∃ n, Hid (n = st.cls.length) := ⟨_, rfl⟩
 have f0' : w.cell? ⟨bb, 0, none⟩ = some (.slice (some ⟨cb, 0, none⟩) cn ccap) := by rw [f0, hCVE, HCN.out]
 have f10 : w.cell? ⟨bb, 10, none⟩ = some (.int .i64 (st.round : Int)) := by
  obtain ⟨sl, R, L, _⟩ := hb0
  exact R.field 10
 obtain ⟨rd, HRD⟩ : ∃ n, Hid (n = st.round) := ⟨_, rfl⟩
 rw [← HRD.out] at f10
 have z3 := hcfz (i * 4 + 3)
 have hiI : (i : Int) < (cn : Int) := by have := HCN.out; omega
 have HRND := hidden (hb0.roundAt i st.round cb st.cls.length ccap hCVE)
 rw [← HRD.out] at HRND
 have ct2 : (w.setCell ⟨cb, i * 4 + 3, none⟩ (.int .i64 (rd : Int))).cell? ⟨cb, i * 4 + 2, none⟩ = some (.int .i64 (c.tier : Int)) := (World.cell?_setCell_other (h := fun e => by injection e; omega) ..).trans ft
 obtain ⟨ct, HCT⟩ : ∃ n, Hid (n = c.tier) := ⟨_, rfl⟩
 rw [← HCT.out] at ct2
 have HHC := hidden hc
 have HL0 := hidden hl0
 have HL1 := hidden hl1
 have HWD := hidden hwd
 clear f0 fl0 ft hcfz hlc hCVE hc hl0 hl1 hwd h hb0
 go_enter Try.func73, Try.ntmps73
 go_upto_region 2 with fail
 generalize hW1 : World.setCell w _ _ = w1
 rw [hW1] at HRND ct2
 clear hW1 f0' f10 fro z3
 have HBD1 := hidden HRND.out.1
 have HBB1 := hidden HRND.out.2
 rw [HRD.out] at HBD1
 have hc1 : (st.roundAt i st.round).cls[i]? = some { c with round := st.round } := mod_same HHC.out
 by_cases htier : ct = 1
 ·subst htier
  have HWC : Hid (∀ w', Bd B w' bb (st.roundAt i st.round) X CV → Calls Try.prog 41 #[.pointer (some ⟨bb, 0, none⟩), .int .i32 (i : Int), .int .i64 ((0 : Nat) : Int)] w' fun e w'' => e = .returned (.tuple #[]) ∧ Bd B w'' bb ((((st.roundAt i st.round).tierAt i 0).addW 0 l0 (i, l1)).addW 0 l1 (i, l0)) X CV ∧ Below B w' w'') := fun w' hb' => by
   have hw1 := (UseR.roundAt st i).wd HWD.out
   exact watch_any B w' bb (st.roundAt i st.round) X CV hb' i 0 _ hc1 (by decide) l0 l1 HL0.out HL1.out (hlits l0 (List.mem_of_getElem? HL0.out)) (hlits l1 (List.mem_of_getElem? HL1.out)) hne (by simp [St.roundAt]; omega) (by have := hw1.len 0 l0; simp [St.roundAt] at this ⊢; omega) (by have := hw1.len 0 l1; simp [St.roundAt] at this ⊢; omega)
  have HURN : Hid (UseR st ((((st.roundAt i st.round).tierAt i 0).addW 0 l0 (i, l1)).addW 0 l1 (i, l0))) := (UseR.roundAt st i).trans (UseR.near hc1 HCT.out.symm HL0.out HL1.out hne)
  have hc2 : ((((st.roundAt i st.round).tierAt i 0).addW 0 l0 (i, l1)).addW 0 l1 (i, l0)).cls[i]? = some { c with round := st.round, tier := 0 } := mod_same hc1
  have HC2' := hidden hc2
  clear hc1 hc2
  go_wp2_with fail
  go_at_call 41
  refine (HWC.out _ (by first | exact HBD1.out)).mono ?_
  rintro e w2 ⟨rfl, hb2, hbb2⟩
  obtain ⟨st2, HST2⟩ : ∃ s, Hid (s = (((st.roundAt i st.round).tierAt i 0).addW 0 l0 (i, l1)).addW 0 l1 (i, l0)) := ⟨_, rfl⟩
  rw [← HST2.out] at hb2 HURN HC2'
  have HBD2 := hidden hb2
  have HUR2 := HURN
  have HBB2 : Hid (Below B w w2) := HBB1.out.trans hbb2
  obtain ⟨c2, HC2E⟩ : ∃ x : BC, Hid (x = { c with round := st.round, tier := 0 }) := ⟨_, rfl⟩
  have HC2 : Hid (st2.cls[i]? = some c2) := by rw [HC2E.out]; exact HC2'.out
  have HCL2 : Hid (c2.l = c.l) := by rw [HC2E.out]; rfl
  have HV2 : Hid (st2.V = st.V) := HURN.out.V
  have HLEN2 : Hid (st2.cls.length = st.cls.length) := HURN.out.len
  clear hb2 hbb2 HWC ct2
  obtain ⟨sl, R, L, hX2, hCV2⟩ := HBD2.out
  have HR2 := hidden R
  have HL2 := hidden L
  obtain ⟨p1, p2⟩ := L.lits i c2 HC2.out
  obtain ⟨q0, -, -, -⟩ := L.cls i c2 HC2.out
  obtain ⟨lb, lcap, hlv, -, hlb, -, hlcell, -⟩ := R.form (.lits i) (by rw [p1, HCL2.out]; omega)
  obtain ⟨cb', ccap', hcv', -, -, -, hccell, -⟩ := R.form .clauses (by rw [L.clsN, HLEN2.out]; omega)
  have ecb : cb' = cb := by
   rw [hCV2, HCVE.out] at hcv'
   have e9 := congrArg Value.ownBlock hcv'
   simp [Value.ownBlock] at e9
   omega
  subst ecb
  obtain ⟨ln, HLN⟩ : ∃ n, Hid (n = c.l.length) := ⟨_, rfl⟩
  have fl : w2.cell? ⟨cb', i * 4, none⟩ = some (.slice (some ⟨lb, 0, none⟩) ln lcap) := by
   rw [hccell (i * 4) (by rw [L.clsN, HLEN2.out]; simp [Site.sz]; omega), Nat.mul_comm, q0, hlv, p1, HCL2.out, HLN.out]
  have HLV := hidden hlv
  obtain ⟨ub, uc, huv, huB, hul, -, -, -⟩ := R.form .used (by rw [L.used.1, HV2.out]; omega)
  have HUV := hidden huv
  obtain ⟨VV, HVV⟩ : ∃ n, Hid (n = st.V) := ⟨_, rfl⟩
  have hub : ub ≠ bb := fun e => R.nb .used (by rw [huv, e]; rfl)
  have HUN : Hid ((sl .used).n = VV) := by show _ = _; rw [L.used.1, HV2.out, HVV.out]
  have HF5 : Hid ((fields sl st2)[5]? = some (.slice (some ⟨ub, 0, none⟩) VV uc)) := by show _ = _; rw [show (fields sl st2)[5]? = some (sl .used).v from rfl, huv, HUN.out]
  have HP2L : Hid ((sl (.lits i)).xs = litV c.l ∧ (sl (.lits i)).n = c.l.length) := ⟨by rw [p2, HCL2.out], by rw [p1, HCL2.out]⟩
  have hln : ln ≤ 200000 := by have := hclen; have := HLN.out; omega
  have HUL : Hid (st2.used.length = st.V) := by show _ = _; rw [L.usedL, HV2.out]
  clear p1 p2 q0 hlv hlcell hccell huv hX2 hCV2 hcv' R L
  go_wp2_with fail
  clear fl
  try clear htI
  try clear htier
  try clear ct2
  go_loopw [33] (fun i' w' => ∃ (k : Nat), k ≤ ln ∧ i' = .int .i64 k ∧ Hid (Rows' B w' bb (fields sl st2) (setS sl .used ⟨(sl .used).v, (sl .used).n, boolV (st2.useL (c.l.take k)).used⟩)) ∧ Hid (Below B w w')) (fun i' _ => ln - (intOf i').toNat)
  case atStart =>
   refine ⟨0, Nat.zero_le _, rfl, ?_, HBB2.out⟩
   show Rows' _ _ _ _ _
   rw [List.take_zero]
   have e : (⟨(sl .used).v, (sl .used).n, boolV (st2.useL []).used⟩ : Slot) = sl .used := by
    have : boolV (st2.useL []).used = (sl .used).xs := by rw [HL2.out.used.2]; rfl
    rw [this]
   rw [e, setS_self]; exact HR2.out
  case round =>
   obtain ⟨k, hk, rfl, HRk, HBk⟩ := hrel
   by_cases hlt : k < ln
   ·obtain ⟨x, hx⟩ := getElem_lt (show k < c.l.length by have := HLN.out; omega)
    have hxV : x < 2 * st.V := hlits x (List.mem_of_getElem? hx)
    have hRk := HRk.out
    obtain ⟨lb', lcap', hlv', -, -, -, hlcell', -⟩ := hRk.form (.lits i) (by rw [setS_other _ _ (by intro e; cases e), HP2L.out.2]; omega)
    rw [setS_other _ _ (by intro e; cases e)] at hlv' hlcell'
    have elb : lb' = lb := by rw [HLV.out] at hlv'; cases hlv'; rfl
    subst elb
    have cx : wr.cell? ⟨lb', k, none⟩ = some (.int .i32 (x : Int)) := by
     rw [hlcell' k (by rw [HP2L.out.2]; simp [Site.sz]; have := HLN.out; omega), HP2L.out.1]; exact litV_get _ _ _ hx
    have hru := hRk.rows .used
    rw [setS_same] at hru
    dsimp only at hru
    rw [HUV.out, HUN.out] at hru
    obtain ⟨u, hu⟩ := getElem_lt (show x / 2 < (boolV (st2.useL (c.l.take k)).used).length by simp only [boolV, List.length_map]; rw [useL_len, HUL.out]; omega)
    have cu := (hru.cellAt (x / 2) (by simp [Site.sz]; have := HVV.out; omega)).trans hu
    have zu := hru.frozenAt (x / 2)
    have f5 : wr.cell? ⟨bb, 5, none⟩ = some (.slice (some ⟨ub, 0, none⟩) VV uc) := by rw [hRk.field 5]; exact HF5.out
    have RS : Hid (∀ w', Below wr.heap.size wr w' → Rows' B (w'.setCell ⟨ub, x / 2, none⟩ (.bool true)) bb (fields sl st2) (setS sl .used ⟨(sl .used).v, (sl .used).n, boolV (st2.useL (c.l.take (k + 1))).used⟩) ∧ Below B w (w'.setCell ⟨ub, x / 2, none⟩ (.bool true))) := fun w' hb' => by
     have R1 := HRk.out.rest hb'
     have R2 := R1.setR .used (g := ub) (cap := uc) (by rw [setS_same]; exact HUV.out) (x / 2) (.bool true)
     simp only [setS_same, setS_twice] at R2
     have e1 : boolV (st2.useL (c.l.take (k + 1))).used = (boolV (st2.useL (c.l.take k)).used).set (x / 2) (.bool true) := by
      rw [useL_next _ _ _ _ hx, ← boolV_set]; rfl
     rw [← e1] at R2
     exact ⟨R2, setTo (HBk.out.trans (hb'.mono HRk.out.size)) huB R1.size⟩
    have VAR := fun w' => variable_any w' x (by omega)
    obtain ⟨xh, HXH⟩ : ∃ h, Hid (h = x / 2) := ⟨_, rfl⟩
    rw [← HXH.out] at cu zu RS VAR
    have hxI : (xh : Int) < (VV : Int) := by have := HXH.out; have := HVV.out; omega
    have hkI : (k : Int) < (ln : Int) := by omega
    have e3 : IntKind.i64.wrap ((k : Int) + 1) = (k : Int) + 1 := wrapI _ (by omega) (by omega)
    have KB : Hid ((fun w' => w'.cell? ⟨bb, 5, none⟩ = some (.slice (some ⟨ub, 0, none⟩) VV uc)) wr) := f5
    have KS : Hid (∀ (w' : World) (xv : Value) (j : Nat), (fun w' => w'.cell? ⟨bb, 5, none⟩ = some (.slice (some ⟨ub, 0, none⟩) VV uc)) w' → (fun w' => w'.cell? ⟨bb, 5, none⟩ = some (.slice (some ⟨ub, 0, none⟩) VV uc)) (w'.setCell ⟨ub, j, none⟩ xv)) := fun w' xv j hh => (World.cell?_setCell_other (h := fun e => hub (by cases e; rfl)) ..).trans hh
    clear hru hu hlcell' hlv' hx hRk
    go_upto_region 7 with fail
    refine wp_region_noPanic ?_
    refine wp_region_held_drew (S := (fun w' => w'.cell? ⟨bb, 5, none⟩ = some (.slice (some ⟨ub, 0, none⟩) VV uc))) (by kernel_rfl) (by first | exact KB.out | exact KS.out _ _ _ (by first | assumption | exact KB.out)) (fun hHeld => ?_)
    refine tk 0 ?_
    refine tk 1 ?_
    refine tk 2 ?_
    refine tk 3 ?_
    refine tk 4 ?_
    refine wpAnyH_ready (rs := [5]) (by kernel_rfl) (by simp) ?_
    refine AllReadyH.cons (o := _) rfl (fun K hK => ?_) AllReadyH.nil
    (try simp only [gA, gB, gC])
    go_simp
    go_at_call 71
    refine (VAR _).mono ?_
    rintro e w9 ⟨rfl, rfl⟩
    go_wp2_with fail
    refine hK.out _ _ (by first | exact KB.out | exact KS.out _ _ _ (by first | assumption | exact KB.out)) (fun hHeld5 => ?_)
    clear hK K
    (try simp only [Act.put]); (try simp only [sA]); (try simp only [sB, sC])
    refine tk 6 ?_
    refine wpAnyH_ready (rs := [7]) (by kernel_rfl) (by simp) ?_
    refine AllReadyH.cons (o := _) rfl (fun K hK => ?_) AllReadyH.nil
    (try simp only [gA, gB, gC])
    go_simp
    refine hK.out _ _ (by first | exact KB.out | exact KS.out _ _ _ (by first | assumption | exact KB.out)) (fun hHeld7 => ?_)
    clear hK K
    (try simp only [Act.put]); (try simp only [sA]); (try simp only [sB, sC])
    refine wpAnyH_done (by kernel_rfl) ?_ _
    refine NoPanic.normal ?_
    generalize hW1 : World.setCell _ _ _ = w1
    obtain ⟨R1, B1⟩ := RS.out _ (by first | exact Below.refl _ _ | exact Below.drew (Below.refl _ _) | exact Below.drew (Below.drew (Below.refl _ _)))
    rw [hW1] at R1 B1
    have HR1 := hidden R1
    have HB1 := hidden B1
    clear hW1 RS KB KS f5 cu zu cx VAR R1 B1
    go_wp2
    go_roundw
    case measure => simp [intOf]; omega
    case rel => exact ⟨k + 1, by omega, by simp, HR1.out.rest (Below.drew (Below.refl _ _)), Below.drew HB1.out⟩
   ·have hge : ¬ ((k : Int) < (ln : Int)) := by omega
    have HX : Hid (∃ st', BD B wr bb st' ∧ UseR st st' ∧ Below B w wr) := by
     have hR := HRk.out
     have ek : c.l.take k = c.l := List.take_of_length_le (by rw [← HLN.out]; omega)
     rw [ek] at hR
     refine ⟨st2.useL c.l, ⟨_, ?_, by rw [useL_eq]; exact HL2.out.usedTo _ (useL_len _ _)⟩, HUR2.out.trans (by rw [useL_eq]; exact UseR.used _ _), HBk.out⟩
     have ef : fields (setS sl .used ⟨(sl .used).v, (sl .used).n, boolV (st2.useL c.l).used⟩) (st2.useL c.l) = fields sl st2 := by rw [useL_eq]; simp [fields, setS]
     rw [ef]; exact hR
    clear HRk HBk
    go_wp2
    go_end0
    exact ⟨rfl, HX.out⟩
 ·have ht0 : ct = 0 := by have := HCT.out; omega
  subst ht0
  obtain ⟨w2, HW2⟩ : ∃ x, Hid (x = w1) := ⟨_, rfl⟩
  rw [← HW2.out] at ct2 ⊢
  obtain ⟨st2, HST2⟩ : ∃ s, Hid (s = st.roundAt i st.round) := ⟨_, rfl⟩
  have HBD2 : Hid (Bd B w2 bb st2 X CV) := by rw [HST2.out, HW2.out]; exact HBD1.out
  have HUR2 : Hid (UseR st st2) := by rw [HST2.out]; exact UseR.roundAt st i
  have HBB2 : Hid (Below B w w2) := by rw [HW2.out]; exact HBB1.out
  obtain ⟨c2, HC2E⟩ : ∃ x : BC, Hid (x = { c with round := st.round }) := ⟨_, rfl⟩
  have HC2 : Hid (st2.cls[i]? = some c2) := by rw [HC2E.out, HST2.out]; exact hc1
  have HCL2 : Hid (c2.l = c.l) := by rw [HC2E.out]; rfl
  have HV2 : Hid (st2.V = st.V) := HUR2.out.V
  have HLEN2 : Hid (st2.cls.length = st.cls.length) := HUR2.out.len
  clear hc1
  obtain ⟨sl, R, L, hX2, hCV2⟩ := HBD2.out
  have HR2 := hidden R
  have HL2 := hidden L
  obtain ⟨p1, p2⟩ := L.lits i c2 HC2.out
  obtain ⟨q0, -, -, -⟩ := L.cls i c2 HC2.out
  obtain ⟨lb, lcap, hlv, -, hlb, -, hlcell, -⟩ := R.form (.lits i) (by rw [p1, HCL2.out]; omega)
  obtain ⟨cb', ccap', hcv', -, -, -, hccell, -⟩ := R.form .clauses (by rw [L.clsN, HLEN2.out]; omega)
  have ecb : cb' = cb := by
   rw [hCV2, HCVE.out] at hcv'
   have e9 := congrArg Value.ownBlock hcv'
   simp [Value.ownBlock] at e9
   omega
  subst ecb
  obtain ⟨ln, HLN⟩ : ∃ n, Hid (n = c.l.length) := ⟨_, rfl⟩
  have fl : w2.cell? ⟨cb', i * 4, none⟩ = some (.slice (some ⟨lb, 0, none⟩) ln lcap) := by
   rw [hccell (i * 4) (by rw [L.clsN, HLEN2.out]; simp [Site.sz]; omega), Nat.mul_comm, q0, hlv, p1, HCL2.out, HLN.out]
  have HLV := hidden hlv
  obtain ⟨ub, uc, huv, huB, hul, -, -, -⟩ := R.form .used (by rw [L.used.1, HV2.out]; omega)
  have HUV := hidden huv
  obtain ⟨VV, HVV⟩ : ∃ n, Hid (n = st.V) := ⟨_, rfl⟩
  have hub : ub ≠ bb := fun e => R.nb .used (by rw [huv, e]; rfl)
  have HUN : Hid ((sl .used).n = VV) := by show _ = _; rw [L.used.1, HV2.out, HVV.out]
  have HF5 : Hid ((fields sl st2)[5]? = some (.slice (some ⟨ub, 0, none⟩) VV uc)) := by show _ = _; rw [show (fields sl st2)[5]? = some (sl .used).v from rfl, huv, HUN.out]
  have HP2L : Hid ((sl (.lits i)).xs = litV c.l ∧ (sl (.lits i)).n = c.l.length) := ⟨by rw [p2, HCL2.out], by rw [p1, HCL2.out]⟩
  have hln : ln ≤ 200000 := by have := hclen; have := HLN.out; omega
  have HUL : Hid (st2.used.length = st.V) := by show _ = _; rw [L.usedL, HV2.out]
  clear p1 p2 q0 hlv hlcell hccell huv hX2 hCV2 hcv' R L
  go_wp2_with fail
  clear fl
  try clear htI
  try clear htier
  try clear ct2
  go_loopw [33] (fun i' w' => ∃ (k : Nat), k ≤ ln ∧ i' = .int .i64 k ∧ Hid (Rows' B w' bb (fields sl st2) (setS sl .used ⟨(sl .used).v, (sl .used).n, boolV (st2.useL (c.l.take k)).used⟩)) ∧ Hid (Below B w w')) (fun i' _ => ln - (intOf i').toNat)
  case atStart =>
   refine ⟨0, Nat.zero_le _, rfl, ?_, HBB2.out⟩
   show Rows' _ _ _ _ _
   rw [List.take_zero]
   have e : (⟨(sl .used).v, (sl .used).n, boolV (st2.useL []).used⟩ : Slot) = sl .used := by
    have : boolV (st2.useL []).used = (sl .used).xs := by rw [HL2.out.used.2]; rfl
    rw [this]
   rw [e, setS_self]; exact HR2.out
  case round =>
   obtain ⟨k, hk, rfl, HRk, HBk⟩ := hrel
   by_cases hlt : k < ln
   ·obtain ⟨x, hx⟩ := getElem_lt (show k < c.l.length by have := HLN.out; omega)
    have hxV : x < 2 * st.V := hlits x (List.mem_of_getElem? hx)
    have hRk := HRk.out
    obtain ⟨lb', lcap', hlv', -, -, -, hlcell', -⟩ := hRk.form (.lits i) (by rw [setS_other _ _ (by intro e; cases e), HP2L.out.2]; omega)
    rw [setS_other _ _ (by intro e; cases e)] at hlv' hlcell'
    have elb : lb' = lb := by rw [HLV.out] at hlv'; cases hlv'; rfl
    subst elb
    have cx : wr.cell? ⟨lb', k, none⟩ = some (.int .i32 (x : Int)) := by
     rw [hlcell' k (by rw [HP2L.out.2]; simp [Site.sz]; have := HLN.out; omega), HP2L.out.1]; exact litV_get _ _ _ hx
    have hru := hRk.rows .used
    rw [setS_same] at hru
    dsimp only at hru
    rw [HUV.out, HUN.out] at hru
    obtain ⟨u, hu⟩ := getElem_lt (show x / 2 < (boolV (st2.useL (c.l.take k)).used).length by simp only [boolV, List.length_map]; rw [useL_len, HUL.out]; omega)
    have cu := (hru.cellAt (x / 2) (by simp [Site.sz]; have := HVV.out; omega)).trans hu
    have zu := hru.frozenAt (x / 2)
    have f5 : wr.cell? ⟨bb, 5, none⟩ = some (.slice (some ⟨ub, 0, none⟩) VV uc) := by rw [hRk.field 5]; exact HF5.out
    have RS : Hid (∀ w', Below wr.heap.size wr w' → Rows' B (w'.setCell ⟨ub, x / 2, none⟩ (.bool true)) bb (fields sl st2) (setS sl .used ⟨(sl .used).v, (sl .used).n, boolV (st2.useL (c.l.take (k + 1))).used⟩) ∧ Below B w (w'.setCell ⟨ub, x / 2, none⟩ (.bool true))) := fun w' hb' => by
     have R1 := HRk.out.rest hb'
     have R2 := R1.setR .used (g := ub) (cap := uc) (by rw [setS_same]; exact HUV.out) (x / 2) (.bool true)
     simp only [setS_same, setS_twice] at R2
     have e1 : boolV (st2.useL (c.l.take (k + 1))).used = (boolV (st2.useL (c.l.take k)).used).set (x / 2) (.bool true) := by
      rw [useL_next _ _ _ _ hx, ← boolV_set]; rfl
     rw [← e1] at R2
     exact ⟨R2, setTo (HBk.out.trans (hb'.mono HRk.out.size)) huB R1.size⟩
    have VAR := fun w' => variable_any w' x (by omega)
    obtain ⟨xh, HXH⟩ : ∃ h, Hid (h = x / 2) := ⟨_, rfl⟩
    rw [← HXH.out] at cu zu RS VAR
    have hxI : (xh : Int) < (VV : Int) := by have := HXH.out; have := HVV.out; omega
    have hkI : (k : Int) < (ln : Int) := by omega
    have e3 : IntKind.i64.wrap ((k : Int) + 1) = (k : Int) + 1 := wrapI _ (by omega) (by omega)
    have KB : Hid ((fun w' => w'.cell? ⟨bb, 5, none⟩ = some (.slice (some ⟨ub, 0, none⟩) VV uc)) wr) := f5
    have KS : Hid (∀ (w' : World) (xv : Value) (j : Nat), (fun w' => w'.cell? ⟨bb, 5, none⟩ = some (.slice (some ⟨ub, 0, none⟩) VV uc)) w' → (fun w' => w'.cell? ⟨bb, 5, none⟩ = some (.slice (some ⟨ub, 0, none⟩) VV uc)) (w'.setCell ⟨ub, j, none⟩ xv)) := fun w' xv j hh => (World.cell?_setCell_other (h := fun e => hub (by cases e; rfl)) ..).trans hh
    clear hru hu hlcell' hlv' hx hRk
    go_upto_region 7 with fail
    refine wp_region_noPanic ?_
    refine wp_region_held_drew (S := (fun w' => w'.cell? ⟨bb, 5, none⟩ = some (.slice (some ⟨ub, 0, none⟩) VV uc))) (by kernel_rfl) (by first | exact KB.out | exact KS.out _ _ _ (by first | assumption | exact KB.out)) (fun hHeld => ?_)
    refine tk 0 ?_
    refine tk 1 ?_
    refine tk 2 ?_
    refine tk 3 ?_
    refine tk 4 ?_
    refine wpAnyH_ready (rs := [5]) (by kernel_rfl) (by simp) ?_
    refine AllReadyH.cons (o := _) rfl (fun K hK => ?_) AllReadyH.nil
    (try simp only [gA, gB, gC])
    go_simp
    go_at_call 71
    refine (VAR _).mono ?_
    rintro e w9 ⟨rfl, rfl⟩
    go_wp2_with fail
    refine hK.out _ _ (by first | exact KB.out | exact KS.out _ _ _ (by first | assumption | exact KB.out)) (fun hHeld5 => ?_)
    clear hK K
    (try simp only [Act.put]); (try simp only [sA]); (try simp only [sB, sC])
    refine tk 6 ?_
    refine wpAnyH_ready (rs := [7]) (by kernel_rfl) (by simp) ?_
    refine AllReadyH.cons (o := _) rfl (fun K hK => ?_) AllReadyH.nil
    (try simp only [gA, gB, gC])
    go_simp
    refine hK.out _ _ (by first | exact KB.out | exact KS.out _ _ _ (by first | assumption | exact KB.out)) (fun hHeld7 => ?_)
    clear hK K
    (try simp only [Act.put]); (try simp only [sA]); (try simp only [sB, sC])
    refine wpAnyH_done (by kernel_rfl) ?_ _
    refine NoPanic.normal ?_
    generalize hW1 : World.setCell _ _ _ = w1
    obtain ⟨R1, B1⟩ := RS.out _ (by first | exact Below.refl _ _ | exact Below.drew (Below.refl _ _) | exact Below.drew (Below.drew (Below.refl _ _)))
    rw [hW1] at R1 B1
    have HR1 := hidden R1
    have HB1 := hidden B1
    clear hW1 RS KB KS f5 cu zu cx VAR R1 B1
    go_wp2
    go_roundw
    case measure => simp [intOf]; omega
    case rel => exact ⟨k + 1, by omega, by simp, HR1.out.rest (Below.drew (Below.refl _ _)), Below.drew HB1.out⟩
   ·have hge : ¬ ((k : Int) < (ln : Int)) := by omega
    have HX : Hid (∃ st', BD B wr bb st' ∧ UseR st st' ∧ Below B w wr) := by
     have hR := HRk.out
     have ek : c.l.take k = c.l := List.take_of_length_le (by rw [← HLN.out]; omega)
     rw [ek] at hR
     refine ⟨st2.useL c.l, ⟨_, ?_, by rw [useL_eq]; exact HL2.out.usedTo _ (useL_len _ _)⟩, HUR2.out.trans (by rw [useL_eq]; exact UseR.used _ _), HBk.out⟩
     have ef : fields (setS sl .used ⟨(sl .used).v, (sl .used).n, boolV (st2.useL c.l).used⟩) (st2.useL c.l) = fields sl st2 := by rw [useL_eq]; simp [fields, setS]
     rw [ef]; exact hR
    clear HRk HBk
    go_wp2
    go_end0
    exact ⟨rfl, HX.out⟩
end Go.Proofs.Ytefjicdhccfieaa
