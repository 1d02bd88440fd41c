import Derived.Test.YtefjicdhccfieaaK01
import Derived.Test.YtefjicdhccfieaaK51
import Derived.Test.YtefjicdhccfieaaK46
set_option maxRecDepth 100000
set_option maxHeartbeats 16000000
namespace Go.Proofs.Ytefjicdhccfieaa
open Go.RowKit
theorem litVG_pre (v r : List Bool) (l : Int) (h : (l / 2).toNat < v.length) : litVG (v ++ r) l = litVG v l := by
 unfold litVG
 rw [List.getElem?_append_left h]
theorem ands_pre (v : List Bool) (l : List AndD) : ∃ r, andsN v l = v ++ r := by
 induction l generalizing v with
 | nil => exact ⟨[], by simp [andsN]⟩
 | cons a t ih =>
  obtain ⟨r, hr⟩ := ih (v ++ [litVG v a.x && litVG v a.y])
  exact ⟨[litVG v a.x && litVG v a.y] ++ r, by rw [← List.append_assoc, ← hr]; rfl⟩
theorem ands_gate (v : List Bool) (l : List AndD) (i : Nat) (d : AndD) (hd : l[i]? = some d) (hb : ∀ (k : Nat) (d : AndD), l[k]? = some d → (0 ≤ d.x ∧ d.x < 2 * (v.length + k : Nat)) ∧ (0 ≤ d.y ∧ d.y < 2 * (v.length + k : Nat))) :
  (andsN v l)[v.length + i]? = some (litVG (andsN v l) d.x && litVG (andsN v l) d.y) := by
 induction l generalizing v i with
 | nil => simp at hd
 | cons a t ih =>
  have e : andsN v (a :: t) = andsN (v ++ [litVG v a.x && litVG v a.y]) t := rfl
  cases i with
  | zero =>
   simp at hd
   subst hd
   obtain ⟨hx, hy⟩ := hb 0 _ rfl
   obtain ⟨r, hr⟩ := ands_pre (v ++ [litVG v a.x && litVG v a.y]) t
   rw [e, hr, List.append_assoc, litVG_pre v _ a.x (by omega), litVG_pre v _ a.y (by omega)]
   rw [List.getElem?_append_right (by omega)]
   simp
  | succ i =>
   have := ih (v ++ [litVG v a.x && litVG v a.y]) i (by simpa using hd) (fun k d' hk => by
    have := hb (k + 1) d' (by simpa using hk)
    rw [List.length_append]
    simp only [List.length_cons, List.length_nil]
    omega)
   rw [e, ← this]
   congr 1
   rw [List.length_append]
   simp only [List.length_cons, List.length_nil]
   omega
section
variable {G : GrD} {row st : List Bool}
theorem cyc_pre : ∃ r, cycN G row st = ([false] ++ inRow G.ins.toNat row ++ st) ++ r := ands_pre _ _
theorem cyc_in {i : Nat} (h : i ≤ G.ins.toNat) : (cycN G row st)[i]? = ([false] ++ inRow G.ins.toNat row)[i]? := by
 obtain ⟨r, hr⟩ := cyc_pre (G := G) (row := row) (st := st)
 rw [hr, List.append_assoc, List.getElem?_append_left (by rw [List.length_append, inRow_length]; simp only [List.length_cons, List.length_nil]; omega)]
theorem cyc_lat {i : Nat} (h : i < st.length) : (cycN G row st)[1 + G.ins.toNat + i]? = st[i]? := by
 obtain ⟨r, hr⟩ := cyc_pre (G := G) (row := row) (st := st)
 have hl : ([false] ++ inRow G.ins.toNat row).length = 1 + G.ins.toNat := by rw [List.length_append, inRow_length]; rfl
 rw [hr, List.getElem?_append_left (by rw [List.length_append, hl]; omega), List.getElem?_append_right (by omega), hl]
 congr 1
 omega
theorem cyc_gate (ha : AndsIn G) (hst : st.length = G.lats.length) {i : Nat} {d : AndD} (hd : G.ands[i]? = some d) : (cycN G row st)[1 + G.ins.toNat + G.lats.length + i]? = some (litVG (cycN G row st) d.x && litVG (cycN G row st) d.y) := by
 have hl : ([false] ++ inRow G.ins.toNat row ++ st).length = 1 + G.ins.toNat + G.lats.length := by rw [List.length_append, List.length_append, inRow_length, hst]; rfl
 have := ands_gate ([false] ++ inRow G.ins.toNat row ++ st) G.ands i d hd (fun k d' hk => by rw [hl]; exact ha k d' hk)
 rw [hl] at this
 exact this
end
def jV (ins la lb aa : Nat) (vA vB : List Bool) (i : Nat) : Bool :=
 if i < 1 + ins + la then vA[i]?.getD false
 else if i < 1 + ins + la + lb then vB[i - la]?.getD false
 else if i < 1 + ins + la + lb + aa then vA[i - lb]?.getD false
 else vB[i - la - aa]?.getD false
theorem mv_half {P : GrD} {fl fg l : Int} (h0 : 0 ≤ l) (hi : 0 ≤ P.ins) (hfl : 0 ≤ fl) (hfg : 0 ≤ fg) : mvF P fl fg l % 2 = l % 2 ∧ (mvF P fl fg l / 2).toNat = if (l / 2).toNat < 1 + P.ins.toNat then (l / 2).toNat else if (l / 2).toNat < 1 + P.ins.toNat + P.lats.length then (l / 2).toNat + fl.toNat else (l / 2).toNat + fg.toNat := by
 have hf : P.first = 1 + P.ins + P.lats.length := rfl
 unfold mvF
 rw [hf]
 by_cases h1 : l / 2 ≤ P.ins
 ·rw [if_pos h1, if_pos (show (l / 2).toNat < 1 + P.ins.toNat by omega)]
  exact ⟨rfl, rfl⟩
 ·rw [if_neg h1, if_neg (show ¬ (l / 2).toNat < 1 + P.ins.toNat by omega)]
  by_cases h2 : l / 2 < 1 + P.ins + P.lats.length
  ·rw [if_pos h2, if_pos (show (l / 2).toNat < 1 + P.ins.toNat + P.lats.length by omega)]
   exact ⟨by omega, by omega⟩
  ·rw [if_neg h2, if_neg (show ¬ (l / 2).toNat < 1 + P.ins.toNat + P.lats.length by omega)]
   exact ⟨by omega, by omega⟩
section
variable {A B : GrD} {vA vB : List Bool}
theorem jV_A (hi : 0 ≤ A.ins) {l : Int} (h0 : 0 ≤ l) (h1 : l < 2 * (1 + A.ins.toNat + A.lats.length + A.ands.length : Nat)) : litF (jV A.ins.toNat A.lats.length B.lats.length A.ands.length vA vB) (mvF A 0 B.lats.length l) = litVG vA l := by
 obtain ⟨e1, e2⟩ := mv_half (P := A) (fl := 0) (fg := B.lats.length) h0 hi (by omega) (by omega)
 unfold litF litVG
 rw [e1, e2]
 congr 1
 unfold jV
 by_cases c1 : (l / 2).toNat < 1 + A.ins.toNat
 ·rw [if_pos c1, if_pos (by omega)]
 ·rw [if_neg c1]
  by_cases c2 : (l / 2).toNat < 1 + A.ins.toNat + A.lats.length
  ·rw [if_pos c2, if_pos (by omega)]; simp
  ·rw [if_neg c2, if_neg (by omega), if_neg (by omega), if_pos (by omega)]
   congr 2; omega
theorem jV_B (hi : 0 ≤ B.ins) (he : A.ins = B.ins) (hin : ∀ i, i ≤ A.ins.toNat → vA[i]? = vB[i]?) {l : Int} (h0 : 0 ≤ l) : litF (jV A.ins.toNat A.lats.length B.lats.length A.ands.length vA vB) (mvF B A.lats.length (A.lats.length + A.ands.length) l) = litVG vB l := by
 obtain ⟨e1, e2⟩ := mv_half (P := B) (fl := A.lats.length) (fg := A.lats.length + A.ands.length) h0 hi (by omega) (by omega)
 unfold litF litVG
 rw [e1, e2]
 congr 1
 unfold jV
 rw [he]
 by_cases c1 : (l / 2).toNat < 1 + B.ins.toNat
 ·rw [if_pos c1, if_pos (by omega), hin _ (by rw [he]; omega)]
 ·rw [if_neg c1]
  by_cases c2 : (l / 2).toNat < 1 + B.ins.toNat + B.lats.length
  ·rw [if_pos c2, if_neg (by omega), if_pos (by omega)]
   congr 2; omega
  ·rw [if_neg c2, if_neg (by omega), if_neg (by omega), if_neg (by omega)]
   congr 2; omega
end
structure Two (A B : GrD) : Prop where
 a0 : 0 ≤ A.ins
 b0 : 0 ≤ B.ins
 he : A.ins = B.ins
 ho : A.outs.length = B.outs.length
 aA : AndsIn A
 aB : AndsIn B
 lA : LatsIn A (1 + A.ins.toNat + A.lats.length + A.ands.length)
 lB : LatsIn B (1 + B.ins.toNat + B.lats.length + B.ands.length)
 oA : OutsIn A (1 + A.ins.toNat + A.lats.length + A.ands.length)
 oB : OutsIn B (1 + B.ins.toNat + B.lats.length + B.ands.length)
theorem two_of {A B : GrD} (h : AlikeG A B = true) : Two A B := by
 obtain ⟨h1, h2, h3, h4⟩ := alike_ok h
 obtain ⟨s1, p1, p2, p3⟩ := grOk_parts h1
 obtain ⟨s2, q1, q2, q3⟩ := grOk_parts h2
 exact ⟨s1.1, s2.1, h3, h4, p1, q1, p2, q2, p3, q3⟩
section
variable {A B : GrD}
theorem join_lats : (joinG A B).lats = A.lats.map (mvL A 0 B.lats.length) ++ B.lats.map (mvL B A.lats.length (A.lats.length + A.ands.length)) := rfl
theorem join_ands : (joinG A B).ands = A.ands.map (mvA A 0 B.lats.length) ++ B.ands.map (mvA B A.lats.length (A.lats.length + A.ands.length)) := rfl
theorem join_outs : (joinG A B).outs = A.outs.map (mvF A 0 B.lats.length) ++ B.outs.map (mvF B A.lats.length (A.lats.length + A.ands.length)) := rfl
theorem join_ins : (joinG A B).ins = A.ins := rfl
theorem join_first : (joinG A B).first = 1 + A.ins + (A.lats.length + B.lats.length : Nat) := by
 show 1 + A.ins + ((joinG A B).lats.length : Int) = _
 rw [join_lats, List.length_append, List.length_map, List.length_map]
theorem join_vars : (joinG A B).vars = 1 + A.ins + (A.lats.length + B.lats.length : Nat) + (A.ands.length + B.ands.length : Nat) := by
 show (joinG A B).first + ((joinG A B).ands.length : Int) = _
 rw [join_first, join_ands, List.length_append, List.length_map, List.length_map]
theorem mv_inA (T : Two A B) {l : Int} (h0 : 0 ≤ l) (h1 : l < 2 * (1 + A.ins.toNat + A.lats.length + A.ands.length : Nat)) : 0 ≤ mvF A 0 B.lats.length l ∧ mvF A 0 B.lats.length l < 2 * (joinG A B).vars := by
 have hf : A.first = 1 + A.ins + A.lats.length := rfl
 have := T.a0
 rw [join_vars]
 unfold mvF
 split
 ·omega
 ·split <;> omega
theorem mv_inB (T : Two A B) {l : Int} (h0 : 0 ≤ l) (h1 : l < 2 * (1 + B.ins.toNat + B.lats.length + B.ands.length : Nat)) : 0 ≤ mvF B A.lats.length (A.lats.length + A.ands.length) l ∧ mvF B A.lats.length (A.lats.length + A.ands.length) l < 2 * (joinG A B).vars := by
 have hf : B.first = 1 + B.ins + B.lats.length := rfl
 have := T.b0
 have := T.he
 rw [join_vars]
 unfold mvF
 split
 ·omega
 ·split <;> omega
theorem join_inn (T : Two A B) : Inn (joinG A B) := by
 refine ⟨T.a0, fun d hd => ?_, fun d hd => ?_, fun l hl => ?_⟩
 ·rw [join_ands] at hd
  rcases List.mem_append.1 hd with h | h
  ·obtain ⟨c, hc, rfl⟩ := List.mem_map.1 h
   obtain ⟨i, hi, rfl⟩ := List.getElem_of_mem hc
   have := T.aA i _ (List.getElem?_eq_getElem hi)
   exact ⟨mv_inA T this.1.1 (by omega), mv_inA T this.2.1 (by omega)⟩
  ·obtain ⟨c, hc, rfl⟩ := List.mem_map.1 h
   obtain ⟨i, hi, rfl⟩ := List.getElem_of_mem hc
   have := T.aB i _ (List.getElem?_eq_getElem hi)
   exact ⟨mv_inB T this.1.1 (by omega), mv_inB T this.2.1 (by omega)⟩
 ·rw [join_lats] at hd
  rcases List.mem_append.1 hd with h | h
  ·obtain ⟨c, hc, rfl⟩ := List.mem_map.1 h
   obtain ⟨i, hi, rfl⟩ := List.getElem_of_mem hc
   have := T.lA i _ (List.getElem?_eq_getElem hi)
   exact mv_inA T this.1 this.2
  ·obtain ⟨c, hc, rfl⟩ := List.mem_map.1 h
   obtain ⟨i, hi, rfl⟩ := List.getElem_of_mem hc
   have := T.lB i _ (List.getElem?_eq_getElem hi)
   exact mv_inB T this.1 this.2
 ·rw [join_outs] at hl
  rcases List.mem_append.1 hl with h | h
  ·obtain ⟨c, hc, rfl⟩ := List.mem_map.1 h
   obtain ⟨i, hi, rfl⟩ := List.getElem_of_mem hc
   have := T.oA i _ (List.getElem?_eq_getElem hi)
   exact mv_inA T this.1 this.2
  ·obtain ⟨c, hc, rfl⟩ := List.mem_map.1 h
   obtain ⟨i, hi, rfl⟩ := List.getElem_of_mem hc
   have := T.oB i _ (List.getElem?_eq_getElem hi)
   exact mv_inB T this.1 this.2
def jW (A B : GrD) (row sA sB : List Bool) : Nat → Bool := jV A.ins.toNat A.lats.length B.lats.length A.ands.length (cycN A row sA) (cycN B row sB)
theorem jW_A (T : Two A B) {row sA sB : List Bool} {l : Int} (h0 : 0 ≤ l) (h1 : l < 2 * (1 + A.ins.toNat + A.lats.length + A.ands.length : Nat)) : litF (jW A B row sA sB) (mvF A 0 B.lats.length l) = litVG (cycN A row sA) l := jV_A T.a0 h0 h1
theorem jW_B (T : Two A B) {row sA sB : List Bool} {l : Int} (h0 : 0 ≤ l) : litF (jW A B row sA sB) (mvF B A.lats.length (A.lats.length + A.ands.length) l) = litVG (cycN B row sB) l :=
 jV_B T.b0 T.he (fun i hi => by rw [cyc_in hi, cyc_in (by rw [← T.he]; exact hi), T.he]) h0
theorem jW_val (T : Two A B) {row sA sB : List Bool} (hA : sA.length = A.lats.length) (hB : sB.length = B.lats.length) : Val (joinG A B) (jW A B row sA sB) := by
 have ha0 := T.a0
 have hb0 := T.b0
 have he := T.he
 refine ⟨?_, fun i d hd => ?_⟩
 ·unfold jW jV
  rw [if_pos (by omega), cyc_in (Nat.zero_le _)]
  rfl
 ·have hF : (joinG A B).first.toNat = 1 + A.ins.toNat + A.lats.length + B.lats.length := by rw [join_first]; omega
  rw [hF]
  rw [join_ands] at hd
  rcases Nat.lt_or_ge i A.ands.length with hi | hi
  ·rw [List.getElem?_append_left (by simpa using hi), List.getElem?_map] at hd
   obtain ⟨c, hc⟩ := getElem_lt hi
   rw [hc] at hd
   simp at hd
   subst hd
   have hb := T.aA i c hc
   show _ = (litF _ (mvF A 0 B.lats.length c.x) && litF _ (mvF A 0 B.lats.length c.y))
   rw [jW_A T hb.1.1 (by omega), jW_A T hb.2.1 (by omega)]
   unfold jW jV
   rw [if_neg (by omega), if_neg (by omega), if_pos (by omega)]
   rw [show 1 + A.ins.toNat + A.lats.length + B.lats.length + i - B.lats.length = 1 + A.ins.toNat + A.lats.length + i by omega, cyc_gate T.aA hA hc]
   rfl
  ·rw [List.getElem?_append_right (by simpa using hi), List.getElem?_map, List.length_map] at hd
   cases hc : B.ands[i - A.ands.length]? with
   | none => rw [hc] at hd; cases hd
   | some c =>
    rw [hc] at hd
    simp at hd
    subst hd
    have hb := T.aB _ c hc
    show _ = (litF _ (mvF B A.lats.length (A.lats.length + A.ands.length) c.x) && litF _ (mvF B A.lats.length (A.lats.length + A.ands.length) c.y))
    rw [jW_B T hb.1.1, jW_B T hb.2.1]
    unfold jW jV
    rw [if_neg (by omega), if_neg (by omega), if_neg (by omega)]
    rw [show 1 + A.ins.toNat + A.lats.length + B.lats.length + i - A.lats.length - A.ands.length = 1 + B.ins.toNat + B.lats.length + (i - A.ands.length) by rw [he]; omega, cyc_gate T.aB hB hc]
    rfl
theorem jW_lat (T : Two A B) {row sA sB : List Bool} (hA : sA.length = A.lats.length) (hB : sB.length = B.lats.length) {i : Nat} {d : LatD} (hd : (joinG A B).lats[i]? = some d) (f : LatD → Bool) (gA gB : LatD → Bool) (h1 : ∀ (j : Nat) (c : LatD), A.lats[j]? = some c → sA[j]? = some (gA c)) (h2 : ∀ (j : Nat) (c : LatD), B.lats[j]? = some c → sB[j]? = some (gB c)) (e1 : ∀ c, c ∈ A.lats → f (mvL A 0 B.lats.length c) = gA c) (e2 : ∀ c, c ∈ B.lats → f (mvL B A.lats.length (A.lats.length + A.ands.length) c) = gB c) :
  jW A B row sA sB ((1 + (joinG A B).ins).toNat + i) = f d := by
 have ha0 := T.a0
 have hb0 := T.b0
 have he := T.he
 rw [join_lats] at hd
 rw [join_ins, show (1 + A.ins).toNat = 1 + A.ins.toNat by omega]
 rcases Nat.lt_or_ge i A.lats.length with hi | hi
 ·rw [List.getElem?_append_left (by simpa using hi), List.getElem?_map] at hd
  obtain ⟨c, hc⟩ := getElem_lt hi
  rw [hc] at hd
  simp at hd
  subst hd
  rw [e1 c (List.mem_of_getElem? hc)]
  unfold jW jV
  rw [if_pos (by omega), cyc_lat (by omega), h1 i c hc]
  rfl
 ·rw [List.getElem?_append_right (by simpa using hi), List.getElem?_map, List.length_map] at hd
  cases hc : B.lats[i - A.lats.length]? with
  | none => rw [hc] at hd; cases hd
  | some c =>
   rw [hc] at hd
   simp at hd
   subst hd
   have hil := (List.getElem?_eq_some_iff.1 hc).1
   rw [e2 c (List.mem_of_getElem? hc)]
   unfold jW jV
   rw [if_neg (by omega), if_pos (by omega), show 1 + A.ins.toNat + i - A.lats.length = 1 + B.ins.toNat + (i - A.lats.length) by rw [he]; omega, cyc_lat (by omega), h2 _ c hc]
   rfl
theorem outs_ok (T : Two A B) : pairsOk (joinG A B).vars (outPrs (joinG A B).outs) = true := by
 have hI := join_inn T
 have hv : 0 < (joinG A B).vars := by rw [join_vars]; have := T.a0; omega
 have hD : ∀ j, litOkG (joinG A B).vars ((joinG A B).outs.getD j 0) = true := fun j => by
  rw [List.getD_eq_getElem?_getD]
  cases h : (joinG A B).outs[j]? with
  | none => exact decide_eq_true ⟨by simp, by simp; omega⟩
  | some x => exact decide_eq_true (hI.outs x (List.mem_of_getElem? h))
 refine List.all_eq_true.2 fun d hd => ?_
 obtain ⟨i, _, rfl⟩ := List.mem_map.1 hd
 show (litOkG _ _ && litOkG _ _) = true
 rw [hD, hD]; rfl
theorem outs_same (T : Two A B) {row sA sB : List Bool} (h : Agree (jW A B row sA sB) (outPrs (joinG A B).outs)) : outN A (cycN A row sA) = outN B (cycN B row sB) := by
 have ho := T.ho
 have hl : (joinG A B).outs.length / 2 = A.outs.length := by rw [join_outs, List.length_append, List.length_map, List.length_map]; omega
 unfold outN
 apply List.ext_getElem?
 intro i
 rw [List.getElem?_map, List.getElem?_map]
 rcases Nat.lt_or_ge i A.outs.length with hi | hi
 ·obtain ⟨a, ha⟩ := getElem_lt hi
  obtain ⟨b, hb⟩ := getElem_lt (show i < B.outs.length by omega)
  rw [ha, hb]
  have hm : (⟨mvF A 0 B.lats.length a, mvF B A.lats.length (A.lats.length + A.ands.length) b⟩ : AndD) ∈ outPrs (joinG A B).outs := by
   refine List.mem_map.2 ⟨i, List.mem_range.2 (by rw [hl]; exact hi), ?_⟩
   rw [hl, List.getD_eq_getElem?_getD, List.getD_eq_getElem?_getD, join_outs, List.getElem?_append_left (by simpa using hi), List.getElem?_append_right (by simp), List.getElem?_map, List.getElem?_map, List.length_map, ha, show A.outs.length + i - A.outs.length = i by omega, hb]
   rfl
  have := h _ hm
  have hA := T.oA i a ha
  have hB := T.oB i b hb
  dsimp only at this
  rw [jW_A T hA.1 hA.2, jW_B T hB.1] at this
  show some _ = some _
  rw [this]
 ·rw [List.getElem?_eq_none hi, List.getElem?_eq_none (by omega)]
  rfl
theorem runs_same {prs : List AndD} {ss os : List (List Int)} (T : Two A B) (hok : pairsOk (joinG A B).vars prs = true) (hs : RefP (formV (joinG A B) prs 1) (formF (joinG A B) prs 1) ss) (hq : RefP (formV (joinG A B) prs 2) (formF (joinG A B) prs 2) os) (tr : List (List Bool)) :
  ∀ (sA sB : List Bool), sA.length = A.lats.length → sB.length = B.lats.length → (∀ row, Agree (jW A B row sA sB) prs) → runN A tr sA = runN B tr sB := by
 induction tr with
 | nil => intro _ _ _ _ _; rfl
 | cons r t ih =>
  intro sA sB hA hB hag
  have hout := outs_same T (outlet_sound (join_inn T) hok (outs_ok T) hq _ (jW_val T hA hB) (hag r))
  have hA' : (nextN A (cycN A r sA)).length = A.lats.length := by unfold nextN; simp
  have hB' : (nextN B (cycN B r sB)).length = B.lats.length := by unfold nextN; simp
  show outN A (cycN A r sA) :: runN A t (nextN A (cycN A r sA)) = outN B (cycN B r sB) :: runN B t (nextN B (cycN B r sB))
  rw [hout, ih _ _ hA' hB' fun row => ?_]
  refine step_sound (join_inn T) hok hs (jW A B r sA sB) _ (jW_val T hA hB) (jW_val T hA' hB') (fun i d hd => ?_) (hag r)
  refine jW_lat T hA' hB' hd (fun d => litF (jW A B r sA sB) d.next) (fun c => litVG (cycN A r sA) c.next) (fun c => litVG (cycN B r sB) c.next) (fun j c hc => ?_) (fun j c hc => ?_) (fun c hc => ?_) (fun c hc => ?_)
  ·unfold nextN; rw [List.getElem?_map, hc]; rfl
  ·unfold nextN; rw [List.getElem?_map, hc]; rfl
  ·obtain ⟨j, hj, rfl⟩ := List.getElem_of_mem hc
   have := T.lA j _ (List.getElem?_eq_getElem hj)
   exact jW_A T this.1 this.2
  ·obtain ⟨j, hj, rfl⟩ := List.getElem_of_mem hc
   have := T.lB j _ (List.getElem?_eq_getElem hj)
   exact jW_B T this.1
theorem holds_sound {prs : List AndD} {bs ss os : List (List Int)} (h : HoldsG A B prs bs ss os) (tr : List (List Bool)) : runN A tr (initN A) = runN B tr (initN B) := by
 obtain ⟨hal, hok, hb, hs, hq⟩ := h
 have T := two_of hal
 have hA : (initN A).length = A.lats.length := by unfold initN; simp
 have hB : (initN B).length = B.lats.length := by unfold initN; simp
 refine runs_same T hok hs hq tr _ _ hA hB fun row => ?_
 refine base_sound (join_inn T) hok hb _ (jW_val T hA hB) (fun i d hd => ?_)
 refine jW_lat T hA hB hd LatD.init LatD.init LatD.init (fun j c hc => ?_) (fun j c hc => ?_) (fun c _ => rfl) (fun c _ => rfl)
 ·unfold initN; rw [List.getElem?_map, hc]; rfl
 ·unfold initN; rw [List.getElem?_map, hc]; rfl
end
end Go.Proofs.Ytefjicdhccfieaa

set_option maxRecDepth 100000
set_option maxHeartbeats 16000000
namespace Go.Proofs.Ytefjicdhccfieaa
open Go.RowKit
def oneG : GrD := ⟨1, [], [], []⟩
theorem refP_one {v : Int} {F : List (List Int)} (h0 : 0 ≤ v) (h1 : v ≤ 100000) (hl : ∀ d, d ∈ F → ∀ m, m ∈ d → litOk v m = true) (he : [] ∈ F) : RefP v F [[]] := by
 refine ⟨⟨h0, h1, hl⟩, rfl, fun i c hc => ?_⟩
 have hc' : c = [] := by
  have := List.mem_of_getElem? hc
  simpa using this
 subst hc'
 exact ⟨fun m hm => (by cases hm), .inr ⟨[], List.mem_append.2 (.inl he), fun m hm => by cases hm⟩⟩
theorem one_holds : HoldsG oneG oneG [] [[]] [[]] [[]] := by
 have f0 : formF (joinG oneG oneG) [] 0 = [[-1], []] := by decide
 have f1 : formF (joinG oneG oneG) [] 1 = [[-1], [-3], []] := by decide
 have f2 : formF (joinG oneG oneG) [] 2 = [[-1], []] := by decide
 have v0 : formV (joinG oneG oneG) [] 0 = 2 := by decide
 have v1 : formV (joinG oneG oneG) [] 1 = 4 := by decide
 have v2 : formV (joinG oneG oneG) [] 2 = 2 := by decide
 refine ⟨by decide, rfl, ?_, ?_, ?_⟩
 ·rw [f0, v0]; exact refP_one (by decide) (by decide) (by decide) (by decide)
 ·rw [f1, v1]; exact refP_one (by decide) (by decide) (by decide) (by decide)
 ·rw [f2, v2]; exact refP_one (by decide) (by decide) (by decide) (by decide)
theorem nil_clAt {w : World} {b : Nat} (h : w.heap[b]? = some (.cells #[.slice none 0 0] 26 (0, 0))) : ClAt w.heap.size w (some ⟨b, 0, none⟩) [⟨none, 0, []⟩] := by
 refine ⟨rowAt_flat (Array.getElem?_eq_some_iff.1 h).1 (fun l hl => by obtain ⟨q, _, rfl⟩ := List.mem_map.1 hl; rfl) (fun m v hm => ?_), fun t ht => ?_, by decide⟩
 ·rw [cell_of_row _ _ m _ _ _ h]
  simpa [CL.cells] using hm
 ·rw [List.mem_singleton.1 ht]; exact rowAt_nil
theorem one_any (w : World) (b1 b2 b3 : Nat) (h1 : w.heap[b1]? = some (.cells #[.slice none 0 0] 26 (0, 0))) (h2 : w.heap[b2]? = some (.cells #[.slice none 0 0] 26 (0, 0))) (h3 : w.heap[b3]? = some (.cells #[.slice none 0 0] 26 (0, 0))) :
  Calls Try.prog 11 #[.agg #[.int .i64 1, .slice none 0 0, .slice none 0 0, .slice none 0 0], .agg #[.int .i64 1, .slice none 0 0, .slice none 0 0, .slice none 0 0], .agg #[.slice none 0 0, .slice (some ⟨b1, 0, none⟩) 1 1, .slice (some ⟨b2, 0, none⟩) 1 1, .slice (some ⟨b3, 0, none⟩) 1 1]] w fun e w' => e = .returned (.bool true) ∧ Below w.heap.size w w' := by
 have g : GrAt w.heap.size w ⟨none, 0, none, 0, none, 0⟩ oneG := ⟨rowAt_nil, rowAt_nil, rowAt_nil, by simp [oneG, big], by simp [oneG, big], by simp [oneG, big]⟩
 refine (holds_any w.heap.size w ⟨none, 0, none, 0, none, 0⟩ ⟨none, 0, none, 0, none, 0⟩ oneG oneG g g (Nat.le_refl _) none 0 [] rowAt_nil (by simp) (some ⟨b1, 0, none⟩) 1 [⟨none, 0, []⟩] (nil_clAt h1) (by decide) (some ⟨b2, 0, none⟩) 1 [⟨none, 0, []⟩] (nil_clAt h2) (by decide) (some ⟨b3, 0, none⟩) 1 [⟨none, 0, []⟩] (nil_clAt h3) (by decide)).mono ?_
 rintro e w' ⟨b, rfl, hb, hw⟩
 have : b = true := hb.2 one_holds
 subst this
 exact ⟨rfl, hw⟩
end Go.Proofs.Ytefjicdhccfieaa
