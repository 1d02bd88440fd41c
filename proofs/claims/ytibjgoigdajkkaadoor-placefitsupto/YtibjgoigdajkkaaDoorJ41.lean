import Derived.Test.YtibjgoigdajkkaaDoorJ39
import Derived.Test.YtibjgoigdajkkaaDoorJ40
import Derived.Test.YtibjgoigdajkkaaDoorJ12
import Derived.Test.YtibjgoigdajkkaaDoorJ10
import Derived.Test.YtibjgoigdajkkaaDoorJ05
namespace Go.Proofs.YtibjgoigdajkkaaDoor
open Go.RowKit

theorem newL5 {w : World} {cc : Nat} (hcc : cc ≤ 500) : ∃ w', (Instr.makeSlice 24 (.int .i64 (cc : Int)) (.int .i64 (cc : Int))).run Tryd.prog w = .ok (.slice (some ⟨w.heap.size, 0, none⟩) cc cc) w' ∧ Blk w' w.heap.size 3 (tabL cc fun _ => .int .i64 0).toArray ∧ Below w.heap.size w w' := by
  obtain ⟨ib, hib, hzb, hsb, hbb⟩ := info_int
  obtain ⟨w', hr, h3, h4⟩ := run_make_full (P := Tryd.prog) w w.heap.size 24 3 ib (.int .i64 0) 1 Tryd.underlying24 hib hzb hsb .i64 .i64 cc (by rw [hbb]; omega) (by simp only [maxLen]; omega) (Nat.le_refl _)
  refine ⟨w', hr, ?_, none_below h4⟩
  have := full_blk h3
  rw [made_i64] at this
  exact this
theorem make_cols {w : World} {cc : Nat} (hcc : cc ≤ 100) : ∃ w', (Instr.makeSlice 33 (.int .i64 (cc : Int)) (.int .i64 (cc : Int))).run Tryd.prog w = .ok (.slice (some ⟨w.heap.size, 0, none⟩) cc cc) w' ∧ Blk w' w.heap.size 66 (tabL cc fun _ => Value.slice none 0 0).toArray ∧ Below w.heap.size w w' := by
  have hi : ∃ i, Tryd.prog.info? 66 = some i ∧ i.zero = some (.slice none 0 0) ∧ i.size = 1 ∧ i.bytes = 24 := by
    have h : (Tryd.prog.info? 66).map (fun i => (i.zero, i.size, i.bytes)) = some (some (.slice none 0 0), 1, 24) := by kernel_rfl
    cases hi : Tryd.prog.info? 66 with
    | none => rw [hi] at h; simp at h
    | some i => rw [hi] at h; simp at h; exact ⟨i, rfl, h.1, h.2.1, h.2.2⟩
  obtain ⟨ib, hib, hzb, hsb, hbb⟩ := hi
  obtain ⟨w', hr, h3, h4⟩ := run_make_full (P := Tryd.prog) w w.heap.size 33 66 ib (.slice none 0 0) 1 Tryd.underlying33 hib hzb hsb .i64 .i64 cc (by rw [hbb]; omega) (by simp only [maxLen]; omega) (Nat.le_refl _)
  refine ⟨w', hr, ?_, none_below h4⟩
  have := full_blk h3
  rw [made_sl] at this
  exact this
/-- the cells of registers -/
def rgF (rs : Nat → RgD) (m : Nat) : Value := if m % 2 = 0 then .int .i64 (rs (m / 2)).sel else .bool (rs (m / 2)).init
theorem rgF_at (rs : Nat → RgD) (k : Nat) : rgF rs (k * 2) = .int .i64 (rs k).sel ∧ rgF rs (k * 2 + 1) = .bool (rs k).init := by
  unfold rgF
  rw [if_pos (by omega), if_neg (by omega), show k * 2 / 2 = k by omega, show (k * 2 + 1) / 2 = k by omega]
  exact ⟨rfl, rfl⟩
theorem rgF_set (rs : Nat → RgD) (k : Nat) (x : Int) (b : Bool) : upd (upd (rgF rs) (k * 2) (.int .i64 x)) (k * 2 + 1) (.bool b) = rgF (upd rs k ⟨x, b⟩) := by
  funext m
  by_cases e1 : m = k * 2 + 1
  · subst e1
    rw [upd_same, (rgF_at _ k).2, upd_same]
  · rw [upd_ne e1]
    by_cases e2 : m = k * 2
    · subst e2
      rw [upd_same, (rgF_at _ k).1, upd_same]
    · rw [upd_ne e2]
      unfold rgF
      rw [upd_ne (show m / 2 ≠ k by omega)]
theorem made_cfg (n : Nat) : (madeCells (Value.agg #[.int .i64 0, .bool false]).cells (n * 2)).toList = tabL (n * 2) (rgF fun _ => ⟨0, false⟩) := by
  apply List.ext_getElem?
  intro i
  by_cases h : i < n * 2
  · rw [tabL_get h, List.getElem?_eq_getElem (by simp [madeCells]; exact h)]
    simp only [madeCells, Value.cells, Array.getElem_toList, Array.getElem_map, Array.getElem_range]
    have h2 : i % 2 = 0 ∨ i % 2 = 1 := by omega
    unfold rgF
    show some ((#[Value.int .i64 0, .bool false] : Array Value)[i % 2]!) = _
    rcases h2 with e | e <;> rw [e] <;> rfl
  · rw [List.getElem?_eq_none (by simp [madeCells]; omega), List.getElem?_eq_none (by rw [tabL_len]; omega)]
theorem make_regs {w : World} {n : Nat} (hn : n ≤ 500) : ∃ w', (Instr.makeSlice 34 (.int .i64 (n : Int)) (.int .i64 (n : Int))).run Tryd.prog w = .ok (.slice (some ⟨w.heap.size, 0, none⟩) n n) w' ∧ Blk w' w.heap.size 72 (tabL (n * 2) (rgF fun _ => ⟨0, false⟩)).toArray ∧ Below w.heap.size w w' := by
  have hi : ∃ i, Tryd.prog.info? 72 = some i ∧ i.zero = some (.agg #[.int .i64 0, .bool false]) ∧ i.size = 2 ∧ i.bytes = 16 := by
    have h : (Tryd.prog.info? 72).map (fun i => (i.zero, i.size, i.bytes)) = some (some (.agg #[.int .i64 0, .bool false]), 2, 16) := by kernel_rfl
    cases hi : Tryd.prog.info? 72 with
    | none => rw [hi] at h; simp at h
    | some i => rw [hi] at h; simp at h; exact ⟨i, rfl, h.1, h.2.1, h.2.2⟩
  obtain ⟨ib, hib, hzb, hsb, hbb⟩ := hi
  obtain ⟨w', hr, h3, h4⟩ := run_make_full (P := Tryd.prog) w w.heap.size 34 72 ib (.agg #[.int .i64 0, .bool false]) 2 Tryd.underlying34 hib hzb hsb .i64 .i64 n (by rw [hbb]; omega) (by simp only [maxLen]; omega) (Nat.le_refl _)
  refine ⟨w', hr, ?_, none_below h4⟩
  have := full_blk h3
  rw [made_cfg] at this
  exact this
def cfgZ : Array Value := #[.int .i64 0, .int .i64 0, .int .i64 0, .int .i64 0, .int .i64 0, .slice none 0 0, .slice none 0 0, .slice none 0 0]
def slB (g n : Nat) : Value := .slice (some ⟨g, 0, none⟩) n n
/-- a configuration that is laid: its boxes and rows -/
structure LdAt (v : World) (W rb cb gA gR gO cc rr so : Nat) (sh : ShD) (f : Nat → Value) (rs : Nat → RgD) (os : Nat → Int) : Prop where
  ge : W ≤ rb ∧ rb < cb ∧ W ≤ gA ∧ W ≤ gR ∧ W ≤ gO
  bz : Blk v rb 36 cfgZ
  box : Blk v cb 36 (cfA sh (slB gA cc) (slB gR rr) (slB gO so))
  cols : Blk v gA 66 (tabL cc f).toArray
  regs : Blk v gR 72 (tabL (rr * 2) (rgF rs)).toArray
  outs : Blk v gO 3 (tabL so fun k => .int .i64 (os k)).toArray
theorem Blk.ne {w : World} {a b : Nat} {t u : TypeId} {x y : Array Value} (h : Blk w a t x) (k : Blk w b u y) (e : t ≠ u) : a ≠ b := fun hab => by
  subst hab
  have := h.symm.trans k
  simp only [Option.some.injEq, Obj.cells.injEq] at this
  exact e this.2.1
theorem LdAt.below {v v' : World} {W rb cb gA gR gO cc rr so : Nat} {sh : ShD} {f : Nat → Value} {rs : Nat → RgD} {os : Nat → Int} (h : LdAt v W rb cb gA gR gO cc rr so sh f rs os) (hb : Below v.heap.size v v') : LdAt v' W rb cb gA gR gO cc rr so sh f rs os :=
  ⟨h.ge, h.bz.below hb, h.box.below hb, h.cols.below hb, h.regs.below hb, h.outs.below hb⟩
theorem LdAt.ne {v : World} {W rb cb gA gR gO cc rr so : Nat} {sh : ShD} {f : Nat → Value} {rs : Nat → RgD} {os : Nat → Int} (h : LdAt v W rb cb gA gR gO cc rr so sh f rs os) : (gA ≠ rb ∧ gR ≠ rb ∧ gO ≠ rb) ∧ (gA ≠ cb ∧ gR ≠ cb ∧ gO ≠ cb) ∧ gA ≠ gR ∧ gA ≠ gO ∧ gR ≠ gO :=
  ⟨⟨h.cols.ne h.bz (by decide), h.regs.ne h.bz (by decide), h.outs.ne h.bz (by decide)⟩, ⟨h.cols.ne h.box (by decide), h.regs.ne h.box (by decide), h.outs.ne h.box (by decide)⟩, h.cols.ne h.regs (by decide), h.cols.ne h.outs (by decide), h.regs.ne h.outs (by decide)⟩
theorem LdAt.setCol {v : World} {W rb cb gA gR gO cc rr so : Nat} {sh : ShD} {f : Nat → Value} {rs : Nat → RgD} {os : Nat → Int} (h : LdAt v W rb cb gA gR gO cc rr so sh f rs os) (c : Nat) (x : Value) : LdAt (v.setCell ⟨gA, c, none⟩ x) W rb cb gA gR gO cc rr so sh (upd f c x) rs os := by
  have hb := But.set gA c v x
  obtain ⟨⟨n1, _, _⟩, ⟨n2, _, _⟩, n3, n4, _⟩ := h.ne
  have := h.cols.set c x
  rw [tab_set] at this
  exact ⟨h.ge, hb.blk h.bz (fun e => n1 e.symm), hb.blk h.box (fun e => n2 e.symm), this, hb.blk h.regs (fun e => n3 e.symm), hb.blk h.outs (fun e => n4 e.symm)⟩
theorem LdAt.setReg {v : World} {W rb cb gA gR gO cc rr so : Nat} {sh : ShD} {f : Nat → Value} {rs : Nat → RgD} {os : Nat → Int} (h : LdAt v W rb cb gA gR gO cc rr so sh f rs os) (k : Nat) (x : Int) (b : Bool) : LdAt ((v.setCell ⟨gR, k * 2, none⟩ (.int .i64 x)).setCell ⟨gR, k * 2 + 1, none⟩ (.bool b)) W rb cb gA gR gO cc rr so sh f (upd rs k ⟨x, b⟩) os := by
  have hb := (But.set gR (k * 2) v (.int .i64 x)).trans (But.set gR (k * 2 + 1) _ (.bool b))
  obtain ⟨⟨_, n1, _⟩, ⟨_, n2, _⟩, n3, _, n4⟩ := h.ne
  have := (h.regs.set (k * 2) (.int .i64 x)).set (k * 2 + 1) (.bool b)
  rw [tab_set, tab_set, rgF_set] at this
  exact ⟨h.ge, hb.blk h.bz (fun e => n1 e.symm), hb.blk h.box (fun e => n2 e.symm), hb.blk h.cols n3, this, hb.blk h.outs (fun e => n4 e.symm)⟩
theorem LdAt.setOut {v : World} {W rb cb gA gR gO cc rr so : Nat} {sh : ShD} {f : Nat → Value} {rs : Nat → RgD} {os : Nat → Int} (h : LdAt v W rb cb gA gR gO cc rr so sh f rs os) (k : Nat) (x : Int) : LdAt (v.setCell ⟨gO, k, none⟩ (.int .i64 x)) W rb cb gA gR gO cc rr so sh f rs (upd os k x) := by
  have hb := But.set gO k v (.int .i64 x)
  obtain ⟨⟨_, _, n1⟩, ⟨_, _, n2⟩, _, n3, n4⟩ := h.ne
  have := h.outs.set k (.int .i64 x)
  rw [tab_set] at this
  have e : upd (fun k => Value.int .i64 (os k)) k (.int .i64 x) = fun j => Value.int .i64 (upd os k x j) := by
    funext j
    unfold upd
    by_cases e : j = k
    · rw [if_pos e, if_pos e]
    · rw [if_neg e, if_neg e]
  rw [e] at this
  exact ⟨h.ge, hb.blk h.bz (fun e => n1 e.symm), hb.blk h.box (fun e => n2 e.symm), hb.blk h.cols n3, hb.blk h.regs n4, this⟩
def colF (blk : Nat → Nat) (rows c : Nat) (j : Nat) : Value := if j < c then slB (blk j) rows else .slice none 0 0
theorem colF_next (blk : Nat → Nat) (rows c g : Nat) : upd (colF blk rows c) c (slB g rows) = colF (upd blk c g) rows (c + 1) := by
  funext j
  unfold colF
  by_cases e : j = c
  · subst e; rw [upd_same, upd_same, if_pos (by omega)]
  · rw [upd_ne e, upd_ne e]
    by_cases h : j < c
    · rw [if_pos h, if_pos (by omega)]
    · rw [if_neg h, if_neg (by omega)]
def regK (F : Nat → RgD) (k : Nat) (j : Nat) : RgD := if j < k then F j else ⟨0, false⟩
theorem regK_next (F : Nat → RgD) (k : Nat) : upd (regK F k) k (F k) = regK F (k + 1) := by
  funext j
  unfold upd regK
  by_cases e : j = k
  · subst e; rw [if_pos rfl, if_pos (by omega)]
  · rw [if_neg e]
    by_cases h : j < k
    · rw [if_pos h, if_pos (by omega)]
    · rw [if_neg h, if_neg (by omega)]
def outK (F : Nat → Int) (k : Nat) (j : Nat) : Int := if j < k then F j else 0
theorem outK_next (F : Nat → Int) (k : Nat) : upd (outK F k) k (F k) = outK F (k + 1) := by
  funext j
  unfold upd outK
  by_cases e : j = k
  · subst e; rw [if_pos rfl, if_pos (by omega)]
  · rw [if_neg e]
    by_cases h : j < k
    · rw [if_pos h, if_pos (by omega)]
    · rw [if_neg h, if_neg (by omega)]
/-- what is laid, as the document's readers see it -/
theorem laid_cn {v : World} {gA gR gO rr so rows : Nat} {D : PnS} {T : PnT} {N : NtD} {ni si nr : Nat} {blk : Nat → Nat} (hcols : Blk v gA 66 (tabL D.cc (colF blk rows D.cc)).toArray) (hregs : Blk v gR 72 (tabL (rr * 2) (rgF (regK (regF D T N ni si nr) nr))).toArray) (houts : Blk v gO 3 (tabL so fun k => .int .i64 (outK (outF D T N ni si nr) N.outs.length k)).toArray) (hc : ∀ c, c < D.cc → CeAt v (blk c) rows (rowC D T N (whF D T ni si nr c) c (heldK D T D.n c) (heldK D T D.n c).length)) (hcc : D.cc ≤ 100) (hrr : rr ≤ 500) (hso : so ≤ 500) (hrw : rows ≤ 500) (hsi : D.sh.ins = si) :
    CnAt v.heap.size v ⟨some ⟨gA, 0, none⟩, D.cc, some ⟨gR, 0, none⟩, rr, some ⟨gO, 0, none⟩, so⟩ ⟨D.sh, tabL D.cc (fun c => ⟨some ⟨blk c, 0, none⟩, rows, colL D T N ni si nr rows c⟩), tabL rr (regF D T N ni si nr), tabL so (outF D T N ni si nr)⟩ ∧
    LaidP D T N ni si nr rr so rows ⟨D.sh, tabL D.cc (fun c => ⟨some ⟨blk c, 0, none⟩, rows, colL D T N ni si nr rows c⟩), tabL rr (regF D T N ni si nr), tabL so (outF D T N ni si nr)⟩ := by
  have hcl : ∀ c, (colL D T N ni si nr rows c).length = rows := fun c => by unfold colL; rw [List.length_map, List.length_range]
  have hget : ∀ {α : Type} (m : Nat) (f : Nat → α) (i : Nat) (x : α), (tabL m f)[i]? = some x → i < m ∧ x = f i := fun m f i x hx => by
    have hi : i < m := by have := (List.getElem?_eq_some_iff.1 hx).1; rwa [tabL_len] at this
    rw [tabL_get hi] at hx
    exact ⟨hi, by simpa using hx.symm⟩
  refine ⟨⟨fun _ => ⟨gA, 0, rfl, hcols.lt, fun i cs hi j x hx => ?_⟩, fun d hd => ?_, fun _ => ⟨gR, 0, rfl, hregs.lt, fun i cs hi j x hx => ?_⟩, fun _ => ⟨gO, 0, rfl, houts.lt, fun i cs hi j x hx => ?_⟩, ?_, fun d hd => ?_, ?_, ?_⟩, ⟨rfl, hsi, tabL_len _ _, fun c d hd => ?_, rfl, rfl⟩⟩
  · rw [List.getElem?_map] at hi
    cases e : (tabL D.cc (fun c => (⟨some ⟨blk c, 0, none⟩, rows, colL D T N ni si nr rows c⟩ : ClD)))[i]? with
    | none => rw [e] at hi; cases hi
    | some d =>
      rw [e] at hi
      obtain ⟨hi1, rfl⟩ := hget _ _ _ _ e
      simp only [Option.map_some, Option.some.injEq] at hi
      subst hi
      have hj : j = 0 := by
        have := (List.getElem?_eq_some_iff.1 hx).1
        simp [ClD.cells] at this; omega
      subst hj
      simp only [ClD.cells, List.getElem?_cons_zero, Option.some.injEq] at hx
      subst hx
      rw [show 0 + i * 1 + 0 = i by omega]
      have := hcols.cell (tab_get hi1)
      unfold colF at this
      rw [if_pos hi1] at this
      rw [hcl]
      exact this
  · obtain ⟨c, hc1⟩ := List.getElem?_of_mem hd
    obtain ⟨hc2, rfl⟩ := hget _ _ _ _ hc1
    intro _
    refine ⟨blk c, 0, rfl, Blk.lt (hc c hc2), fun i cs hi j x hx => ?_⟩
    rw [List.getElem?_map] at hi
    have hir : i < rows := by
      by_cases e : i < rows
      · exact e
      · rw [List.getElem?_eq_none (by show _ ≤ i; rw [hcl]; omega)] at hi; cases hi
    have hj : j < 5 := by
      cases e : (colL D T N ni si nr rows c)[i]? with
      | none => rw [show ((⟨some ⟨blk c, 0, none⟩, rows, colL D T N ni si nr rows c⟩ : ClD).cs) = colL D T N ni si nr rows c from rfl, e] at hi; cases hi
      | some d =>
        rw [show ((⟨some ⟨blk c, 0, none⟩, rows, colL D T N ni si nr rows c⟩ : ClD).cs) = colL D T N ni si nr rows c from rfl, e] at hi
        simp only [Option.map_some, Option.some.injEq] at hi
        rw [← hi] at hx
        have := (List.getElem?_eq_some_iff.1 hx).1
        simpa [CeD.cells] using this
    have e1 : (colL D T N ni si nr rows c)[i]? = some (rowC D T N (whF D T ni si nr c) c (heldK D T D.n c) (heldK D T D.n c).length i) := by
      unfold colL; rw [List.getElem?_map, List.getElem?_range hir]; rfl
    rw [show ((⟨some ⟨blk c, 0, none⟩, rows, colL D T N ni si nr rows c⟩ : ClD).cs) = colL D T N ni si nr rows c from rfl, e1] at hi
    simp only [Option.map_some, Option.some.injEq] at hi
    rw [show 0 + i * 5 + j = i * 5 + j by omega, (hc c hc2).cell hir hj, ← hx, ← hi]
    rcases (show j = 0 ∨ j = 1 ∨ j = 2 ∨ j = 3 ∨ j = 4 by omega) with rfl | rfl | rfl | rfl | rfl <;> rfl
  · rw [List.getElem?_map] at hi
    cases e : (tabL rr (regF D T N ni si nr))[i]? with
    | none => rw [e] at hi; cases hi
    | some d =>
      rw [e] at hi
      obtain ⟨hi1, rfl⟩ := hget _ _ _ _ e
      simp only [Option.map_some, Option.some.injEq] at hi
      subst hi
      have hreg : regK (regF D T N ni si nr) nr i = regF D T N ni si nr i := by
        unfold regK
        by_cases h : i < nr
        · rw [if_pos h]
        · rw [if_neg h]; unfold regF; rw [if_neg h]
      have hj : j = 0 ∨ j = 1 := by
        have := (List.getElem?_eq_some_iff.1 hx).1
        simp [RgD.cells] at this; omega
      rw [show 0 + i * 2 + j = i * 2 + j by omega, hregs.cell (tab_get (show i * 2 + j < rr * 2 by omega)), ← hx]
      rcases hj with rfl | rfl
      · rw [Nat.add_zero, (rgF_at _ i).1, hreg]; rfl
      · rw [(rgF_at _ i).2, hreg]; rfl
  · rw [List.getElem?_map] at hi
    cases e : (tabL so (outF D T N ni si nr))[i]? with
    | none => rw [e] at hi; cases hi
    | some d =>
      rw [e] at hi
      obtain ⟨hi1, rfl⟩ := hget _ _ _ _ e
      simp only [Option.map_some, Option.some.injEq] at hi
      subst hi
      have hout : outK (outF D T N ni si nr) N.outs.length i = outF D T N ni si nr i := by
        unfold outK
        by_cases h : i < N.outs.length
        · rw [if_pos h]
        · rw [if_neg h]; unfold outF; rw [if_neg h]
      have hj : j = 0 := by
        have := (List.getElem?_eq_some_iff.1 hx).1
        simp [intC] at this; omega
      subst hj
      rw [show 0 + i * 1 + 0 = i by omega, houts.cell (tab_get hi1), ← hx, hout]; rfl
  · show (tabL D.cc _).length < big
    rw [tabL_len]; unfold big; omega
  · obtain ⟨c, hc1⟩ := List.getElem?_of_mem hd
    obtain ⟨_, rfl⟩ := hget _ _ _ _ hc1
    show (colL D T N ni si nr rows c).length < big
    rw [hcl]; unfold big; omega
  · show (tabL rr _).length < big
    rw [tabL_len]; unfold big; omega
  · show (tabL so _).length < big
    rw [tabL_len]; unfold big; omega
  · obtain ⟨_, rfl⟩ := hget _ _ _ _ hd
    rfl


end Go.Proofs.YtibjgoigdajkkaaDoor

namespace Go.Proofs.YtibjgoigdajkkaaDoor
open Go.RowKit

set_option maxRecDepth 100000 in
set_option maxHeartbeats 8000000 in
theorem depth_any (B : Nat) (w : World) (S : NtS) (N : NtD) (h : NtAt B w S N) (hB : B ≤ w.heap.size) (hok : NtOk N = true) (hin : NtIn N) :
    Calls Tryd.prog 35 #[.agg (S.cells N)] w fun e w' => e = .returned (.int .i64 (depN N)) ∧ Below w.heap.size w w' := by
  have VL : Hid (∀ w', Below w.heap.size w w' → Calls Tryd.prog 16 #[.agg (S.cells N)] w' fun e w'' => e = .returned (.bool true) ∧ Below w'.heap.size w' w'') := fun w' hw' => by
    have := valid_any B w' S N (h.to (hw'.mono hB)) (Nat.le_trans hB hw'.size)
    rw [hok] at this
    exact this
  obtain ⟨r, HRD⟩ : ∃ r, Hid (r = depN N) := ⟨_, rfl⟩
  rw [← HRD.out]
  have DE : Hid (∀ w' gb, Below w.heap.size w w' → BoxAt w' gb S N → Calls Tryd.prog 51 #[.pointer (some ⟨gb, 0, none⟩)] w' fun e w'' => e = .returned (.int .i64 r) ∧ Below w'.heap.size w' w'') := fun w' gb hw' hx => by
    rw [HRD.out]
    exact deepest_any B w' gb S N hx (h.to (hw'.mono hB)) (Nat.le_trans hB hw'.size) hin
  unfold NtS.cells at *
  clear h hok hin
  go_enter Tryd.func35, Tryd.ntmps35
  go_upto_region 1 with fail
  generalize hW : World.alloc w _ = W
  have HB : Hid (Below w.heap.size w W) := by rw [← hW]; exact (Below.refl _ _).alloc (Nat.le_refl _) _
  have hN : w.heap.size < W.heap.size := by rw [← hW]; simp
  have HX : Hid (BoxAt W w.heap.size S N) := by rw [← hW]; exact BoxAt.new w S N
  clear hW
  have q0 := HX.out.c0
  have q1 := HX.out.c1
  have q2 := HX.out.c2
  have q3 := HX.out.c3
  have q4 := HX.out.c4
  go_wp2_with fail
  go_at_call 16
  refine (VL.out _ HB.out).mono ?_
  rintro e w1 ⟨rfl, hb1⟩
  have HB1 := hidden (HB.out.trans (hb1.mono HB.out.size))
  have HX1 : Hid (BoxAt w1 w.heap.size S N) := HX.out.to hN hb1
  clear hb1 q0 q1 q2 q3 q4 VL HX
  go_wp2_with fail
  go_at_call 51
  refine (DE.out _ _ HB1.out HX1.out).mono ?_
  rintro e w2 ⟨rfl, hb2⟩
  have HB2 := hidden (HB1.out.trans (hb2.mono HB1.out.size))
  clear hb2 DE HX1
  go_wp2_with fail
  go_ret
  exact ⟨rfl, HB2.out⟩



end Go.Proofs.YtibjgoigdajkkaaDoor
