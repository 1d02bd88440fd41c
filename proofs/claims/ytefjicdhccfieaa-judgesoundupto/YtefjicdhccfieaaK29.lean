import Derived.Test.YtefjicdhccfieaaK01
import Derived.Test.YtefjicdhccfieaaK28
import Derived.Test.YtefjicdhccfieaaK25
set_option maxRecDepth 100000
set_option maxHeartbeats 16000000
namespace Go.Proofs.Ytefjicdhccfieaa
open Go.RowKit
def St.nextAt (st : St) (i k : Nat) : St := { st with cls := st.cls.modify i fun c => { c with next := k } }
def St.roundAt (st : St) (i k : Nat) : St := { st with cls := st.cls.modify i fun c => { c with round := k } }
def St.useV (st : St) (v : Nat) (b : Bool) : St := { st with used := st.used.set v b }
theorem Link.nextAt {sl : Site → Slot} {st : St} (h : Link sl st) (i t : Nat) : Link (setS sl .clauses ⟨(sl .clauses).v, (sl .clauses).n, (sl .clauses).xs.set (4 * i + 1) (.int .i64 (t : Int))⟩) (st.nextAt i t) := by
 refine ⟨h.hV, ?_, h.heldL, ?_, h.reasonL, ?_, h.usedL, ?_, ?_, ?_, ?_, ?_, ?_⟩
 ·simpa [setS, St.nextAt] using h.held
 ·simpa [setS, St.nextAt] using h.reason
 ·simpa [setS, St.nextAt] using h.used
 ·simpa [setS, St.nextAt] using h.trail
 ·simpa [setS, St.nextAt] using h.clsN
 ·intro j c hc
  simp only [St.nextAt, List.getElem?_modify] at hc
  cases hj : st.cls[j]? with
  | none => rw [hj] at hc; cases hc
  | some d =>
   rw [hj] at hc
   obtain ⟨h0, h1, h2, h3⟩ := h.cls j d hj
   rw [setS_same, setS_other _ _ (by intro e; cases e)]
   dsimp only
   by_cases e : i = j
   ·subst e
    simp at hc
    subst hc
    have hlt : 4 * i + 1 < (sl .clauses).xs.length := (List.getElem?_eq_some_iff.1 h1).1
    refine ⟨?_, ?_, ?_, ?_⟩
    ·rw [List.getElem?_set_ne (by omega)]; exact h0
    ·rw [List.getElem?_set_self hlt]
    ·rw [List.getElem?_set_ne (by omega)]; exact h2
    ·rw [List.getElem?_set_ne (by omega)]; exact h3
   ·simp [e] at hc
    subst hc
    refine ⟨?_, ?_, ?_, ?_⟩
    ·rw [List.getElem?_set_ne (by omega)]; exact h0
    ·rw [List.getElem?_set_ne (by omega)]; exact h1
    ·rw [List.getElem?_set_ne (by omega)]; exact h2
    ·rw [List.getElem?_set_ne (by omega)]; exact h3
 ·intro j c hc
  simp only [St.nextAt, List.getElem?_modify] at hc
  cases hj : st.cls[j]? with
  | none => rw [hj] at hc; cases hc
  | some d =>
   rw [hj] at hc
   have h0 := h.lits j d hj
   rw [setS_other _ _ (by intro e; cases e)]
   by_cases e : i = j
   ·subst e
    simp at hc
    subst hc
    exact h0
   ·simp [e] at hc
    subst hc
    exact h0
 ·intro t ht
  simpa [setS, St.nextAt] using h.row t ht
 ·intro t l' ht hl
  simpa [setS, St.nextAt] using h.wl t l' ht hl
theorem Link.roundAt {sl : Site → Slot} {st : St} (h : Link sl st) (i t : Nat) : Link (setS sl .clauses ⟨(sl .clauses).v, (sl .clauses).n, (sl .clauses).xs.set (4 * i + 3) (.int .i64 (t : Int))⟩) (st.roundAt i t) := by
 refine ⟨h.hV, ?_, h.heldL, ?_, h.reasonL, ?_, h.usedL, ?_, ?_, ?_, ?_, ?_, ?_⟩
 ·simpa [setS, St.roundAt] using h.held
 ·simpa [setS, St.roundAt] using h.reason
 ·simpa [setS, St.roundAt] using h.used
 ·simpa [setS, St.roundAt] using h.trail
 ·simpa [setS, St.roundAt] using h.clsN
 ·intro j c hc
  simp only [St.roundAt, List.getElem?_modify] at hc
  cases hj : st.cls[j]? with
  | none => rw [hj] at hc; cases hc
  | some d =>
   rw [hj] at hc
   obtain ⟨h0, h1, h2, h3⟩ := h.cls j d hj
   rw [setS_same, setS_other _ _ (by intro e; cases e)]
   dsimp only
   by_cases e : i = j
   ·subst e
    simp at hc
    subst hc
    have hlt : 4 * i + 3 < (sl .clauses).xs.length := (List.getElem?_eq_some_iff.1 h3).1
    refine ⟨?_, ?_, ?_, ?_⟩
    ·rw [List.getElem?_set_ne (by omega)]; exact h0
    ·rw [List.getElem?_set_ne (by omega)]; exact h1
    ·rw [List.getElem?_set_ne (by omega)]; exact h2
    ·rw [List.getElem?_set_self hlt]
   ·simp [e] at hc
    subst hc
    refine ⟨?_, ?_, ?_, ?_⟩
    ·rw [List.getElem?_set_ne (by omega)]; exact h0
    ·rw [List.getElem?_set_ne (by omega)]; exact h1
    ·rw [List.getElem?_set_ne (by omega)]; exact h2
    ·rw [List.getElem?_set_ne (by omega)]; exact h3
 ·intro j c hc
  simp only [St.roundAt, List.getElem?_modify] at hc
  cases hj : st.cls[j]? with
  | none => rw [hj] at hc; cases hc
  | some d =>
   rw [hj] at hc
   have h0 := h.lits j d hj
   rw [setS_other _ _ (by intro e; cases e)]
   by_cases e : i = j
   ·subst e
    simp at hc
    subst hc
    exact h0
   ·simp [e] at hc
    subst hc
    exact h0
 ·intro t ht
  simpa [setS, St.roundAt] using h.row t ht
 ·intro t l' ht hl
  simpa [setS, St.roundAt] using h.wl t l' ht hl
theorem boolV_set (l : List Bool) (i : Nat) (x : Bool) : boolV (l.set i x) = (boolV l).set i (.bool x) := by simp [boolV, List.map_set]
theorem Link.useV {sl : Site → Slot} {st : St} (h : Link sl st) (v : Nat) (b : Bool) : Link (setS sl .used ⟨(sl .used).v, (sl .used).n, (sl .used).xs.set v (.bool b)⟩) (st.useV v b) := by
 refine ⟨h.hV, ?_, h.heldL, ?_, h.reasonL, ?_, by simpa [St.useV] using h.usedL, ?_, ?_, ?_, ?_, ?_, ?_⟩
 ·simpa [setS, St.useV] using h.held
 ·simpa [setS, St.useV] using h.reason
 ·refine ⟨by simpa [setS, St.useV] using h.used.1, ?_⟩
  simp only [St.useV, boolV_set]
  rw [← h.used.2]
  simp [setS]
 ·simpa [setS, St.useV] using h.trail
 ·simpa [setS, St.useV] using h.clsN
 ·intro j c hc
  simpa [setS, St.useV] using h.cls j c hc
 ·intro j c hc
  simpa [setS, St.useV] using h.lits j c hc
 ·intro t ht
  simpa [setS, St.useV] using h.row t ht
 ·intro t l' ht hl
  simpa [setS, St.useV] using h.wl t l' ht hl
end Go.Proofs.Ytefjicdhccfieaa

set_option maxRecDepth 100000
set_option maxHeartbeats 16000000
namespace Go.Proofs.Ytefjicdhccfieaa
open Go.RowKit
def St.useL (st : St) (ls : List Nat) : St := ls.foldl (fun s l => s.useV (l / 2) true) st
theorem useL_next (st : St) (ls : List Nat) (k l : Nat) (h : ls[k]? = some l) : st.useL (ls.take (k + 1)) = (st.useL (ls.take k)).useV (l / 2) true := by
 rw [take_next ls k l h]; simp [St.useL]
theorem Bd.clause {B : Nat} {w : World} {bb : Nat} {st : St} {X : Slot} {CV : Value} (h : Bd B w bb st X CV) {i : Nat} {c : BC} (hc : st.cls[i]? = some c) (h0 : 0 < c.l.length) : ∃ cb ccap lb lcap, CV = .slice (some ⟨cb, 0, none⟩) st.cls.length ccap ∧ B ≤ cb ∧ cb < w.heap.size ∧ lb < w.heap.size ∧ w.cell? ⟨bb, 0, none⟩ = some CV ∧ w.cell? ⟨cb, i * 4, none⟩ = some (.slice (some ⟨lb, 0, none⟩) c.l.length lcap) ∧ w.cell? ⟨cb, i * 4 + 2, none⟩ = some (.int .i64 (c.tier : Int)) ∧ w.cell? ⟨cb, i * 4 + 3, none⟩ = some (.int .i64 (c.round : Int)) ∧ (∀ j, w.frozen? ⟨cb, j, none⟩ = false) ∧ ∀ k x : Nat, c.l[k]? = some x → w.cell? ⟨lb, k, none⟩ = some (.int .i32 (x : Int)) := by
 obtain ⟨sl, R, L, _, rfl⟩ := h
 have hil : i < st.cls.length := (List.getElem?_eq_some_iff.1 hc).1
 obtain ⟨q0, q1, q2, q3⟩ := L.cls i c hc
 obtain ⟨p1, p2⟩ := L.lits i c hc
 obtain ⟨lb, lcap, hlv, _, hlb, _, hlcell, _⟩ := R.form (.lits i) (by rw [p1]; exact h0)
 obtain ⟨cb, ccap, hcv, hcB, hcl, _, hccell, hcfz⟩ := R.form .clauses (by rw [L.clsN]; omega)
 refine ⟨cb, ccap, lb, lcap, by rw [hcv, L.clsN], hcB, hcl, hlb, R.field 0, ?_, ?_, ?_, hcfz, fun k x hx => ?_⟩
 ·rw [hccell (i * 4) (by rw [L.clsN]; simp [Site.sz]; omega), Nat.mul_comm, q0, hlv, p1]
 ·rw [hccell (i * 4 + 2) (by rw [L.clsN]; simp [Site.sz]; omega), Nat.mul_comm, q2]
 ·rw [hccell (i * 4 + 3) (by rw [L.clsN]; simp [Site.sz]; omega), Nat.mul_comm, q3]
 ·have := (List.getElem?_eq_some_iff.1 hx).1
  rw [hlcell k (by rw [p1]; simp [Site.sz]; omega), p2]; exact litV_get _ _ _ hx
theorem Bd.roundAt {B : Nat} {w : World} {bb : Nat} {st : St} {X : Slot} {CV : Value} (h : Bd B w bb st X CV) (i k cb n ccap : Nat) (hCV : CV = .slice (some ⟨cb, 0, none⟩) n ccap) : Bd B (w.setCell ⟨cb, i * 4 + 3, none⟩ (.int .i64 (k : Int))) bb (st.roundAt i k) X CV ∧ Below B w (w.setCell ⟨cb, i * 4 + 3, none⟩ (.int .i64 (k : Int))) := by
 obtain ⟨sl, R, L, hX, hv⟩ := h
 rw [hCV] at hv
 have hr := R.rows .clauses
 have hn : n = (sl .clauses).n := by
  rcases hr.2 with ⟨h1, _⟩ | ⟨g, cap, cur, h1, _⟩
  ·rw [hv] at h1; cases h1
  ·rw [hv] at h1; cases h1; rfl
 rw [hn] at hv
 have hB : B ≤ cb := (hr.lt cb (by rw [hv]; rfl)).1
 rw [Nat.mul_comm i 4]
 refine ⟨⟨_, ?_, L.roundAt i k, ?_, ?_⟩, setTo (Below.refl _ _) hB R.size⟩
 ·have := R.setR .clauses hv (4 * i + 3) (.int .i64 (k : Int))
  have ef : fields (setS sl .clauses ⟨(sl .clauses).v, (sl .clauses).n, (sl .clauses).xs.set (4 * i + 3) (.int .i64 (k : Int))⟩) (st.roundAt i k) = fields sl st := by simp [fields, setS, St.roundAt]
  rw [ef]; exact this
 ·rw [← hX]; simp [setS, St.roundAt]
 ·rw [setS_same, hCV, hn]; exact hv
theorem Bd.usedC {B : Nat} {w : World} {bb : Nat} {st : St} {X : Slot} {CV : Value} (h : Bd B w bb st X CV) {v : Nat} (hv : v < st.V) : ∃ ub uc u, w.cell? ⟨bb, 5, none⟩ = some (.slice (some ⟨ub, 0, none⟩) st.V uc) ∧ w.cell? ⟨ub, v, none⟩ = some (.bool u) ∧ st.used[v]? = some u ∧ w.frozen? ⟨ub, v, none⟩ = false ∧ ub ≠ bb ∧ ∀ (w' : World) (b : Bool), Below w.heap.size w w' → Bd B (w'.setCell ⟨ub, v, none⟩ (.bool b)) bb (st.useV v b) X CV ∧ Below B w (w'.setCell ⟨ub, v, none⟩ (.bool b)) := by
 obtain ⟨sl, R, L, hX, hCV⟩ := h
 obtain ⟨ub, uc, huv, huB, hul, _, hcell, hfz⟩ := R.form .used (by rw [L.used.1]; omega)
 obtain ⟨u, hu⟩ := getElem_lt (show v < st.used.length by rw [L.usedL]; exact hv)
 refine ⟨ub, uc, u, by rw [R.field 5, ← L.used.1, ← huv]; rfl, ?_, hu, hfz v, fun e => R.nb .used (by rw [huv, ← e]; rfl), fun w' b hb => ?_⟩
 ·rw [hcell v (by rw [L.used.1]; simp [Site.sz]; omega), L.used.2]; simp [boolV, hu]
 ·have R1 := R.rest hb
  refine ⟨⟨_, ?_, L.useV v b, ?_, ?_⟩, setTo (hb.mono R.size) huB R1.size⟩
  ·have := R1.setR .used huv v (.bool b)
   have ef : fields (setS sl .used ⟨(sl .used).v, (sl .used).n, (sl .used).xs.set v (.bool b)⟩) (st.useV v b) = fields sl st := by simp [fields, setS, St.useV]
   rw [ef]; exact this
  ·rw [← hX]; simp [setS, St.useV]
  ·rw [← hCV]; simp [setS]
end Go.Proofs.Ytefjicdhccfieaa

set_option maxRecDepth 100000
set_option maxHeartbeats 16000000
namespace Go.Proofs.Ytefjicdhccfieaa
open Go.RowKit
def swp (ls : List Nat) (i j : Nat) : List Nat := (ls.set i (ls.getD j 0)).set j (ls.getD i 0)
theorem swp_len (ls : List Nat) (i j : Nat) : (swp ls i j).length = ls.length := by simp [swp]
def swI (i j k : Nat) : Nat := if k = j then i else if k = i then j else k
theorem swp_get (ls : List Nat) {i j : Nat} (hi : i < ls.length) (hj : j < ls.length) (k : Nat) : (swp ls i j)[k]? = ls[swI i j k]? := by
 obtain ⟨a, ha⟩ := getElem_lt hi
 obtain ⟨b, hb⟩ := getElem_lt hj
 have ea : ls.getD i 0 = a := by rw [List.getD_eq_getElem?_getD, ha]; rfl
 have eb : ls.getD j 0 = b := by rw [List.getD_eq_getElem?_getD, hb]; rfl
 unfold swp swI
 rw [ea, eb]
 by_cases h1 : k = j
 ·subst h1
  rw [if_pos rfl, List.getElem?_set_self (by simp; exact hj), ha]
 ·rw [if_neg h1, List.getElem?_set_ne (fun e => h1 e.symm)]
  by_cases h2 : k = i
  ·subst h2
   rw [if_pos rfl, List.getElem?_set_self hi, hb]
  ·rw [if_neg h2, List.getElem?_set_ne (fun e => h2 e.symm)]
theorem swI_swI (i j k : Nat) : swI i j (swI i j k) = k := by
 unfold swI
 by_cases h1 : k = j
 ·subst h1; rw [if_pos rfl]
  by_cases h2 : i = k
  ·rw [if_pos h2, h2]
  ·rw [if_neg h2, if_pos rfl]
 ·rw [if_neg h1]
  by_cases h2 : k = i
  ·subst h2; rw [if_pos rfl, if_pos rfl]
  ·rw [if_neg h2, if_neg h1, if_neg h2]
theorem swp_mem (ls : List Nat) {i j : Nat} (hi : i < ls.length) (hj : j < ls.length) (x : Nat) : x ∈ swp ls i j ↔ x ∈ ls := by
 constructor
 ·intro h
  obtain ⟨k, hk⟩ := List.getElem?_of_mem h
  rw [swp_get ls hi hj] at hk
  exact List.mem_of_getElem? hk
 ·intro h
  obtain ⟨k, hk⟩ := List.getElem?_of_mem h
  have : (swp ls i j)[swI i j k]? = some x := by rw [swp_get ls hi hj, swI_swI, hk]
  exact List.mem_of_getElem? this
theorem nodup_get {ls : List Nat} (h : ls.Nodup) {i j : Nat} {x : Nat} (hi : ls[i]? = some x) (hj : ls[j]? = some x) : i = j := by
 have h1 := (List.getElem?_eq_some_iff.1 hi).1
 exact (List.getElem?_inj h1 h).1 (by rw [hi, hj])
theorem nodup_of {ls : List Nat} (h : ∀ i j x : Nat, ls[i]? = some x → ls[j]? = some x → i = j) : ls.Nodup := by
 rw [List.nodup_iff_pairwise_ne]
 rw [List.pairwise_iff_getElem]
 intro i j hi hj hij e
 have := h i j ls[i] (List.getElem?_eq_getElem hi) (by rw [e]; exact List.getElem?_eq_getElem hj)
 omega
theorem swp_nodup {ls : List Nat} (h : ls.Nodup) {i j : Nat} (hi : i < ls.length) (hj : j < ls.length) : (swp ls i j).Nodup := by
 refine nodup_of (fun a b x ha hb => ?_)
 rw [swp_get ls hi hj] at ha hb
 have := nodup_get h ha hb
 have h2 := congrArg (swI i j) this
 rwa [swI_swI, swI_swI] at h2
theorem nodup_len {ls : List Nat} (h : ls.Nodup) {n : Nat} (hn : ∀ x, x ∈ ls → x < n) : ls.length ≤ n := by
 induction n generalizing ls with
 | zero =>
  cases ls with
  | nil => simp
  | cons a r => exact absurd (hn a (by simp)) (by omega)
 | succ n ih =>
  have h1 := ih (h.erase n) (fun x hx => by
   have h2 := (h.mem_erase_iff).1 hx
   have := hn x h2.2
   have := h2.1
   omega)
  have h3 := List.length_erase (a := n) (l := ls)
  split at h3 <;> omega
def intL (y : Nat) : Int := if y % 2 = 0 then ((y / 2 : Nat) : Int) + 1 else -(((y / 2 : Nat) : Int) + 1)
theorem intL_opp (y : Nat) : intL (oppN y) = - intL y := by
 unfold intL oppN
 by_cases h : y % 2 = 0
 ·rw [if_pos h, if_pos h, if_neg (by omega)]; congr 2; omega
 ·rw [if_neg h, if_neg h, if_pos (by omega)]; omega
theorem intL_inj {x y : Nat} (h : intL x = intL y) : x = y := by
 unfold intL at h
 split at h <;> split at h <;> omega
theorem intL_lit {n : Int} (h : n ≠ 0) : intL (litN n) = n := by
 unfold intL litN
 split <;> split <;> omega
def wt (c : BC) (u : Nat) : Prop := c.l[0]? = some u ∨ c.l[1]? = some u
theorem wt.mem {c : BC} {u : Nat} (h : wt c u) : u ∈ c.l := by rcases h with h | h <;> exact List.mem_of_getElem? h
structure Wd (V : Nat) (cls : List BC) (W : Nat → Nat → List (Nat × Nat)) : Prop where
 two : ∀ (i : Nat) (c : BC), cls[i]? = some c → 2 ≤ c.l.length ∧ c.l.Nodup ∧ (∀ x, x ∈ c.l → x < 2 * V) ∧ c.tier < 2 ∧ 2 ≤ c.next ∧ c.next ≤ c.l.length
 has : ∀ (i : Nat) (c : BC) (u : Nat), cls[i]? = some c → wt c u → ∃ o, (i, o) ∈ W c.tier u
 own : ∀ t l i o, (i, o) ∈ W t l → ∃ c, cls[i]? = some c ∧ o ∈ c.l ∧ (c.tier = t → wt c l) ∧ (t = 0 → c.tier = 0)
 nd : ∀ t l, ((W t l).map (·.1)).Nodup
theorem Wd.len {V : Nat} {cls : List BC} {W : Nat → Nat → List (Nat × Nat)} (h : Wd V cls W) (t l : Nat) : (W t l).length ≤ cls.length := by
 have := nodup_len (h.nd t l) (n := cls.length) (fun x hx => by
  obtain ⟨⟨i, o⟩, h1, rfl⟩ := List.mem_map.1 hx
  obtain ⟨c, hc, _⟩ := h.own t l i o h1
  exact (List.getElem?_eq_some_iff.1 hc).1)
 simpa using this
theorem Wd.clen {V : Nat} {cls : List BC} {W : Nat → Nat → List (Nat × Nat)} (h : Wd V cls W) {i : Nat} {c : BC} (hc : cls[i]? = some c) : c.l.length ≤ 2 * V := nodup_len (h.two i c hc).2.1 (h.two i c hc).2.2.1
structure Hd (st : St) : Prop where
 heldL : st.held.length = 2 * st.V
 held : ∀ y, y < 2 * st.V → st.held.getD y 0 = if y ∈ st.trail then 1 else if oppN y ∈ st.trail then -1 else 0
 tlt : ∀ y, y ∈ st.trail → y < 2 * st.V
 tnd : st.trail.Nodup
 cons : ∀ y, y ∈ st.trail → oppN y ∉ st.trail
 l0 : st.lk0 ≤ st.trail.length
 l1 : st.lk1 ≤ st.trail.length
theorem Hd.len {st : St} (h : Hd st) : st.trail.length ≤ 2 * st.V := nodup_len h.tnd h.tlt
theorem Hd.pos {st : St} (h : Hd st) {y : Nat} (hy : y < 2 * st.V) : 0 < st.held.getD y 0 ↔ y ∈ st.trail := by
 rw [h.held y hy]
 by_cases h1 : y ∈ st.trail
 ·simp [h1]
 ·rw [if_neg h1]; by_cases h2 : oppN y ∈ st.trail <;> simp [h1, h2]
theorem Hd.neg {st : St} (h : Hd st) {y : Nat} (hy : y < 2 * st.V) : st.held.getD y 0 < 0 ↔ oppN y ∈ st.trail := by
 rw [h.held y hy]
 by_cases h1 : y ∈ st.trail
 ·simp [h1, h.cons y h1]
 ·rw [if_neg h1]; by_cases h2 : oppN y ∈ st.trail <;> simp [h2]
theorem Hd.val {st : St} (h : Hd st) {y : Nat} (hy : y < 2 * st.V) : st.held.getD y 0 = 1 ∨ st.held.getD y 0 = 0 ∨ st.held.getD y 0 = -1 := by
 rw [h.held y hy]
 by_cases h1 : y ∈ st.trail
 ·simp [h1]
 ·rw [if_neg h1]; by_cases h2 : oppN y ∈ st.trail <;> simp [h2]
theorem Hd.even {st : St} (h : Hd st) : Even' st := fun y hy => by
 rw [h.held y hy, h.held _ (oppN_lt hy), oppN_opp]
 by_cases h1 : y ∈ st.trail
 ·simp [h1, h.cons y h1]
 ·by_cases h2 : oppN y ∈ st.trail <;> simp [h1, h2]
theorem Hd.hold {st : St} (h : Hd st) {l : Nat} (hl : l < 2 * st.V) (h0 : st.held.getD l 0 = 0) (r : Int) : Hd (st.hold l r) := by
 have ho := oppN_lt hl
 have hne := oppN_ne l
 have n1 : l ∉ st.trail := fun hm => by have := (h.pos hl).2 hm; omega
 have n2 : oppN l ∉ st.trail := fun hm => by have := (h.neg hl).2 hm; omega
 refine ⟨by simp [St.hold, h.heldL], fun y hy => ?_, fun y hy => ?_, ?_, fun y hy hy2 => ?_, ?_, ?_⟩
 ·have hy' : y < 2 * st.V := hy
  have et : (st.hold l r).trail = st.trail ++ [l] := rfl
  rw [et]
  show ((st.held.set l 1).set (oppN l) (-1)).getD y 0 = _
  rw [getD_set _ _ _ _ (by simp [h.heldL]; exact ho), getD_set _ _ _ _ (by rw [h.heldL]; exact hl), h.held y hy']
  by_cases e1 : y = oppN l
  ·subst e1
   rw [if_pos rfl, if_neg (by simp [n2, hne]), if_pos (by rw [oppN_opp]; simp)]
  ·rw [if_neg e1]
   by_cases e2 : y = l
   ·subst e2; rw [if_pos rfl, if_pos (by simp)]
   ·rw [if_neg e2]
    have e3 : (y ∈ st.trail ++ [l]) ↔ y ∈ st.trail := by simp [e2]
    have e4 : (oppN y ∈ st.trail ++ [l]) ↔ oppN y ∈ st.trail := by
     have : oppN y ≠ l := fun e => e1 (by rw [← e, oppN_opp])
     simp [this]
    simp only [e3, e4]
 ·simp only [St.hold, List.mem_append, List.mem_singleton] at hy
  rcases hy with hy | hy
  ·exact h.tlt y hy
  ·rw [hy]; exact hl
 ·simp only [St.hold]
  rw [List.nodup_append]
  exact ⟨h.tnd, by simp, fun a ha b hb e => by rw [List.mem_singleton.1 hb] at e; rw [e] at ha; exact n1 ha⟩
 ·simp only [St.hold, List.mem_append, List.mem_singleton] at hy hy2
  rcases hy with hy | hy
  ·rcases hy2 with hy2 | hy2
   ·exact h.cons y hy hy2
   ·exact n2 (by rw [← hy2, oppN_opp]; exact hy)
  ·subst hy
   rcases hy2 with hy2 | hy2
   ·exact n2 hy2
   ·exact hne hy2
 ·have := h.l0; simp [St.hold]; omega
 ·have := h.l1; simp [St.hold]; omega
def W4 (st : St) (ex : Nat → Nat → Prop) : Prop := ∀ (i : Nat) (c : BC) (u : Nat), st.cls[i]? = some c → wt c u → oppN u ∈ st.trail.take (if c.tier = 0 then st.lk0 else st.lk1) → (∃ y, y ∈ c.l ∧ y ∈ st.trail) ∨ ex i u
def W5 (cls : List BC) (T : List Nat) : Prop := ∀ (i : Nat) (c : BC) (u : Nat), cls[i]? = some c → wt c u → oppN u ∈ T → ∃ y, y ∈ c.l ∧ y ∈ T
def Dof (cls : List BC) : List (List Int) := cls.map fun c => c.l.map intL
structure Core (F : List (List Int)) (L A : Int → Prop) (b : Nat) (st : St) (W : Nat → Nat → List (Nat × Nat)) : Prop where
 wd : Wd st.V st.cls W
 hd : Hd st
 rs : ∀ r, r ∈ st.reason → -1 ≤ r ∧ (r < 1 ∨ r < (st.cls.length : Int))
 bf : b ≤ st.trail.length
 w5 : W5 st.cls (st.trail.take b)
 bk : Book F (Dof st.cls) L
 so : ∀ y, y ∈ st.trail → Der F A (intL y)
end Go.Proofs.Ytefjicdhccfieaa
