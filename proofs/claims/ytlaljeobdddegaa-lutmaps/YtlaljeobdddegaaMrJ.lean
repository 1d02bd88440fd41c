import Derived.Test.YtlaljeobdddegaaMrI
import Derived.Test.YtlaljeobdddegaaLuC
namespace Go.Proofs.Ytlaljeobdddegaa
open Go.RowKit Mp

theorem tabs_u : Try.prog.underlying 32 = some (.slice 53) := Try.underlying32
theorem info_tab0 : (Try.prog.info? 53).map (fun i => (i.zero, i.size, i.bytes)) = some (some (.agg #[.slice none 0 0, .int .i64 0]), 2, 32) := by kernel_rfl
theorem info_tab : ∃ i, Try.prog.info? 53 = some i ∧ i.zero = some (.agg #[.slice none 0 0, .int .i64 0]) ∧ i.size = 2 ∧ i.bytes = 32 := by
  have h := info_tab0
  cases hi : Try.prog.info? 53 with
  | none => rw [hi] at h; simp at h
  | some i => rw [hi] at h; simp at h; exact ⟨i, rfl, h.1, h.2.1, h.2.2⟩
/-- one table more -/
theorem step_tab (w : World) {ops : Array Oper} {o : Oper} {a : Act} {K : Act → World → Prop} {Q : Exit → Act → World → Prop} {E : Prop} (hgd : o.guard = none) (s x : Operand)
    (ho : o.op = .call { callee := .builtin .append, args := #[s, x], argTypes := #[32, 32] })
    (base : Nat) (v : Value) (n : Nat) (xs : List Value) (hs : a.eval s = v) (hown : w.ownsRow base 53 2 v n xs) (b : Nat) (d : L.TbD) (hx : a.eval x = .slice (some ⟨b, 0, none⟩) 1 1) (hy : Blk w b 53 d.cells.toArray) (hn : n ≤ 900000000000) (hbase : base ≤ w.heap.size)
    (h : ∀ g cap w', w'.ownsRow base 53 2 (.slice (some ⟨g, 0, none⟩) (n + 1) cap) (n + 1) (xs ++ d.cells) → w.grownBy w' v.ownBlock → (v.ownBlock = some g ∨ g = w.heap.size) → K (a.put o.dst (.slice (some ⟨g, 0, none⟩) (n + 1) cap)) w') : if Region.wanted o (yielded ops a.tmps) = true then Oper.wp Try.prog o a w K Q else E := by
  obtain ⟨i, hi, hz, hsz, hby⟩ := info_tab
  refine step_append_lies w hgd s x 32 ho base 53 i _ 2 32 tabs_u hi hz hsz hby rfl (by decide) v n xs hs hown ⟨b, 0, none⟩ 1 1 d.cells hx rfl (fun j u hu => ?_) (by simp [L.TbD.cells, Value.oneCell']) (by decide) (by simp only [maxLen]; omega) (by omega) hbase _ rfl ?_
  · rw [addL, Nat.zero_add]
    exact hy.cell (by rw [List.getElem?_toArray]; exact hu)
  · intro g cap w' h1 h2 h3 _
    exact h g cap w' h1 h2 h3
theorem own_sl {w : World} {C e sz n : Nat} {v : Value} {xs : List Value} (h : w.ownsRow C e sz v n xs) : ∃ a c, v = .slice a n c := by
  rcases h.2 with ⟨rfl, h0⟩ | ⟨g, cap, cur, rfl, _⟩
  · exact ⟨none, 0, by rw [h0]⟩
  · exact ⟨_, _, rfl⟩
def tcl (d : L.TbD) : Value := .slice d.a d.ins.length d.c
structure LyS where
  lb : Nat
  sb : Nat
  qb : Nat
  M : Nat
/-- a net that is laid down -/
structure NetL where
  ni : Int
  init : List Bool
  tabs : List L.TbD
  next : List Int
  outs : List Int
structure LyAt (C : Nat) (w : World) (D : LyS) (N : NetL) (sg : Nat → Int) (wd : Nat → Bool) (iv tv nv ov : Value) : Prop where
  bk : Blk w D.lb 72 #[.int .i64 N.ni, iv, tv, nv, ov, .slice (some ⟨D.sb, 0, none⟩) D.M D.M, .slice (some ⟨D.qb, 0, none⟩) D.M D.M]
  sg : Blk w D.sb 3 (tabL D.M fun l => .int .i64 (sg l)).toArray
  wd : Blk w D.qb 4 (tabL D.M fun l => .bool (wd l)).toArray
  oi : w.ownsRow C 4 1 iv N.init.length (N.init.map Value.bool)
  ot : w.ownsRow C 53 2 tv N.tabs.length (N.tabs.flatMap L.TbD.cells)
  on : w.ownsRow C 3 1 nv N.next.length (N.next.map zV)
  oo : w.ownsRow C 3 1 ov N.outs.length (N.outs.map zV)
  ti : ∀ d, d ∈ N.tabs → w.ownsRow C 3 1 (tcl d) d.ins.length (d.ins.map zV) ∧ FaV (tcl d) iv ∧ FaV (tcl d) tv ∧ FaV (tcl d) nv ∧ FaV (tcl d) ov
  f1 : FaV tv iv
  f2 : FaV tv nv
  f3 : FaV tv ov
  f4 : FaV nv iv
  f5 : FaV nv ov
  f6 : FaV iv ov
  lt : D.lb < C ∧ D.sb < C ∧ D.qb < C
  le : C ≤ w.heap.size
  ne : D.lb ≠ D.sb ∧ D.lb ≠ D.qb ∧ D.sb ≠ D.qb
theorem LyAt.to {C : Nat} {w w' : World} {D : LyS} {N : NetL} {sg : Nat → Int} {wd : Nat → Bool} {iv tv nv ov : Value} (h : LyAt C w D N sg wd iv tv nv ov) (hb : Bl w w') : LyAt C w' D N sg wd iv tv nv ov :=
  ⟨h.bk.below hb, h.sg.below hb, h.wd.below hb, own_below h.oi hb, own_below h.ot hb, own_below h.on hb, own_below h.oo hb, fun d hd => ⟨own_below (h.ti d hd).1 hb, (h.ti d hd).2⟩, h.f1, h.f2, h.f3, h.f4, h.f5, h.f6, h.lt, Nat.le_trans h.le hb.size, h.ne⟩
/-- a table more -/
theorem LyAt.tab {C : Nat} {w w1 w2 : World} {D : LyS} {N : NetL} {sg : Nat → Int} {wd : Nat → Bool} {iv tv nv ov : Value} (h : LyAt C w D N sg wd iv tv nv ov) (hb : Bl w w1) {d : L.TbD} (hd : w1.ownsRow w.heap.size 3 1 (tcl d) d.ins.length (d.ins.map zV)) (hg : w1.grownBy w2 tv.ownBlock) {g cap : Nat} (ho : w2.ownsRow C 53 2 (.slice (some ⟨g, 0, none⟩) (N.tabs.length + 1) cap) (N.tabs.length + 1) (N.tabs.flatMap L.TbD.cells ++ d.cells)) (hp : tv.ownBlock = some g ∨ g = w1.heap.size) :
    LyAt C (w2.setCell ⟨D.lb, 2, none⟩ (.slice (some ⟨g, 0, none⟩) (N.tabs.length + 1) cap)) D { N with tabs := N.tabs ++ [d] } sg wd iv (.slice (some ⟨g, 0, none⟩) (N.tabs.length + 1) cap) nv ov := by
  have h1 := h.to hb
  have hg6 := (But.set D.lb 2 w2 (.slice (some ⟨g, 0, none⟩) (N.tabs.length + 1) cap)).grown
  have nb : ∀ b, b < C → some b ≠ tv.ownBlock := fun b hb e => by have := own_newB h.ot b e.symm; omega
  have nx : ∀ {e sz n : Nat} {x : Value} {xs : List Value}, w1.ownsRow C e sz x n xs → FaV tv x → (w2.setCell ⟨D.lb, 2, none⟩ (.slice (some ⟨g, 0, none⟩) (N.tabs.length + 1) cap)).ownsRow C e sz x n xs := fun hx hf => own_kept (own_kept hx hg hf.or) hg6 (new_ne (own_newB hx) h.lt.1)
  have s1 := hb.size
  have s2 := hg.size
  have hdC : w1.ownsRow C 3 1 (tcl d) d.ins.length (d.ins.map zV) := own_mono hd h.le
  have fdt : FaV tv (tcl d) := fun k hk e => by have := own_lt h.ot k hk; have := own_newB hd k e; omega
  have fdn : ∀ x : Value, ∀ {e sz n : Nat} {xs : List Value}, w.ownsRow C e sz x n xs → FaV (tcl d) x := fun x _ _ _ _ hx k hk e => by have := own_newB hd k hk; have := own_lt hx k e; omega
  have fdv : FaV (tcl d) (.slice (some ⟨g, 0, none⟩) (N.tabs.length + 1) cap) := (fdt.new hd (Nat.le_refl _) (place_of hp)).symm
  refine ⟨?_, ?_, ?_, nx h1.oi h.f1, ?_, nx h1.on h.f2, nx h1.oo h.f3, fun t ht => ?_, h.f1.new h.oi s1 (place_of hp), h.f2.new h.on s1 (place_of hp), h.f3.new h.oo s1 (place_of hp), h.f4, h.f5, h.f6, h.lt, by have := hg6.size; have := h1.le; omega, h.ne⟩
  · exact (blk_kept h1.bk hg (nb _ h.lt.1)).set 2 _
  · exact blk_kept (blk_kept h1.sg hg (nb _ h.lt.2.1)) hg6 (fun e => h.ne.1 (by injection e with e; exact e.symm))
  · exact blk_kept (blk_kept h1.wd hg (nb _ h.lt.2.2)) hg6 (fun e => h.ne.2.1 (by injection e with e; exact e.symm))
  · show World.ownsRow _ C 53 2 _ (N.tabs ++ [d]).length ((N.tabs ++ [d]).flatMap L.TbD.cells)
    rw [List.flatMap_append, List.length_append, List.flatMap_singleton]
    exact own_kept ho hg6 (new_ne (own_newB ho) h.lt.1)
  · rcases List.mem_append.1 ht with ht | ht
    · obtain ⟨k1, k2, k3, k4, k5⟩ := h1.ti t ht
      have k0 := (h.ti t ht).1
      exact ⟨nx k1 k3.symm, k2, (k3.symm.new k0 s1 (place_of hp)).symm, k4, k5⟩
    · obtain rfl := List.mem_singleton.1 ht
      exact ⟨nx hdC fdt, fdn _ h.oi, fdv, fdn _ h.on, fdn _ h.oo⟩
end Go.Proofs.Ytlaljeobdddegaa
