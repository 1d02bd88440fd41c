import Derived.Test.YtlkhmcajedjojaaJ30
namespace Go.Proofs.Ytlkhmcajedjojaa
open Go.RowKit

theorem own_oth {bs : List Nat} {w w' : World} {B e size n : Nat} {v : Value} {xs : List Value} (h : w.ownsRow B e size v n xs) (ho : Oth bs w w') (hn : ∀ k, v.ownBlock = some k → k ∉ bs) : w'.ownsRow B e size v n xs := by
  refine ⟨h.1, ?_⟩
  rcases h.2 with h | ⟨g, cap, cur, rfl, h1, h2, h3⟩
  · exact .inl h
  · exact .inr ⟨g, cap, cur, rfl, h1, (ho.block g (Array.getElem?_eq_some_iff.1 h2).1 (hn g rfl)).trans h2, h3⟩

theorem wp_last {P : Program} {c : Code} {Q : Exit → Act → World → Prop} {a : Act} {w : World} (h : c.wp P (Exit.then (fun a w => Q .normal a w) Q) a w) : c.wp P Q a w := Code.wp_mono (fun e _ _ h => by cases e <;> exact h) h

set_option maxRecDepth 100000 in
set_option maxHeartbeats 8000000 in
theorem clock_any (w : World) (N : NetD) (C mk nbk : Nat) (hCw : C ≤ w.heap.size) (hmk : mk < w.heap.size) (m0 : w.cell? ⟨mk, 0, none⟩ = some (.pointer (some ⟨nbk, 0, none⟩))) (hnbk : nbk < C)
    (a2 : Option Addr) (c2 : Nat) (q2 : w.cell? ⟨nbk, 2, none⟩ = some (.slice a2 N.regs.length c2)) (HR : Hid (RowAt C w a2 3 (N.regs.map RegD.cells))) (a4 : Option Addr) (c4 : Nat) (q4 : w.cell? ⟨nbk, 4, none⟩ = some (.slice a4 N.wrs.length c4)) (HW : Hid (RowAt C w a4 4 (N.wrs.map WrD.cells)))
    (g cap : Nat) (hgC : C ≤ g) (hmg : g ≠ mk) (m2 : w.cell? ⟨mk, 2, none⟩ = some (.slice (some ⟨g, 0, none⟩) N.regs.length cap)) (regs : List Nat) (hrl : regs.length = N.regs.length) (HO0 : Hid (w.ownsRow C 33 1 (.slice (some ⟨g, 0, none⟩) N.regs.length cap) N.regs.length (regs.map uV)))
    (vs : List Nat) (vb vo cv : Nat) (m1 : w.cell? ⟨mk, 1, none⟩ = some (.slice (some ⟨vb, vo, none⟩) vs.length cv)) (hvb : vb < w.heap.size) (hsep : g ≠ vb) (HV : Hid (∀ (i x : Nat), vs[i]? = some x → w.cell? ⟨vb, vo + i, none⟩ = some (.int .u64 (x : Int))))
    (ms : List MB) (bs : List Nat) (hbs : ∀ b, b ∈ bs → C ≤ b) (HBE : Hid (bs = ms.map MB.b)) (HM0 : Hid (MsIn C w ms)) (hmn : mk ∉ bs) (hgn : g ∉ bs) (hvn : vb ∉ bs) (b6 o6 c6 : Nat) (m3 : w.cell? ⟨mk, 3, none⟩ = some (.slice (some ⟨b6, o6, none⟩) ms.length c6)) (h6 : b6 < w.heap.size) (h6n : b6 ∉ bs) (hg6 : g ≠ b6) (H6 : Hid (∀ (i : Nat) (m : MB), ms[i]? = some m → w.cell? ⟨b6, o6 + i, none⟩ = some m.val)) (hbig : ∀ m, m ∈ ms → m.l.length < 17592186044416)
    (hinR : ∀ z, z ∈ N.regs → 0 ≤ z.next ∧ z.next < (vs.length : Int)) (hlenR : N.regs.length < 17592186044416) (hinW : ∀ z, z ∈ N.wrs → 0 ≤ z.mem ∧ z.mem < (ms.length : Int) ∧ 0 ≤ z.when_ ∧ z.when_ < (vs.length : Int) ∧ 0 ≤ z.addr ∧ z.addr < (vs.length : Int) ∧ 0 ≤ z.data ∧ z.data < (vs.length : Int)) (hlenW : N.wrs.length < 17592186044416) :
    Calls Try.prog 35 #[.pointer (some ⟨mk, 0, none⟩)] w fun e w' => (∃ v, e = .returned v) ∧ w'.ownsRow C 33 1 (.slice (some ⟨g, 0, none⟩) N.regs.length cap) N.regs.length ((N.regs.map fun z => vAt vs z.next).map uV) ∧ MsIn C w' (N.wrs.foldl (wrStep vs) ms) ∧ Oth (g :: bs) w w' := by
  go_enter Try.func35, Try.ntmps35
  go_upto_block 0 with fail
  refine ckRegs w N C mk nbk hCw hmk m0 a2 c2 q2 hnbk HR g cap hgC hmg m2 regs hrl HO0 vs vb vo cv m1 hvb hsep HV hinR hlenR _ _ _ _ _ _ _ _ _ _ _ _ _ _ _ _ _ _ _ _ _ _ _ _ _ _ _ _ _ _ _ _ _ _ _ _ _ _ _ _ _ _ _ _ _ _ _ _ _ _ _ _ _ _ _ _ _ _ _ _ _ _ _ _ _ _ _ _ _ _ _ _ _ _ _ _ _ _ _ _ _ _ _ _ _ _ _ _ _ _ _ _ _ _ _ _ _ _ _ _ _ _ _ _ _ _ _ _ _ _ _ _ _ ?_
  intro w1 v2 v15 v16 v17 v18 v19 v20 v21 v22 v23 v24 v25 v26 v27 v28 v29 v30 v31 v32 v33 v34 v35 v36 v37 v38 v39 v40 v41 hcut
  obtain ⟨hO1, hG1⟩ := hcut
  have HO1 := hidden hO1
  have HG1 := hidden hG1
  clear hO1 hG1
  have HB1 : Hid (Below C w w1) := below_grown HG1.out hCw (fun k hk => by cases hk; exact hgC)
  have far : ∀ (b o : Nat), b < w.heap.size → g ≠ b → w1.cell? ⟨b, o, none⟩ = w.cell? ⟨b, o, none⟩ := fun b o hb hn => World.cell?_of_block (w := w) (a := ⟨b, o, none⟩) (HG1.out.block b hb (by intro e; exact hn (by simpa using e.symm)))
  have m0' := (far mk 0 hmk hmg).trans m0
  have m1' := (far mk 1 hmk hmg).trans m1
  have m3' := (far mk 3 hmk hmg).trans m3
  have q4' := (HB1.out.cell (p := ⟨nbk, 4, none⟩) hnbk).trans q4
  have hs1 := HG1.out.size
  have HM1 : Hid (MsIn C w1 ms) := ⟨fun m hm => (HM0.out.own m hm).kept HG1.out (.inr (by
    show some m.b ≠ some g
    intro e
    cases e
    exact hgn (by rw [HBE.out]; exact List.mem_map.2 ⟨m, hm, rfl⟩))), HM0.out.apart⟩
  have HW1 : Hid (RowAt C w1 a4 4 (N.wrs.map WrD.cells)) := HW.out.to HB1.out
  have H61 : Hid (∀ (i : Nat) (m : MB), ms[i]? = some m → w1.cell? ⟨b6, o6 + i, none⟩ = some m.val) := fun i m hm => (far b6 _ h6 hg6).trans (H6.out i m hm)
  have HV1 : Hid (∀ (i x : Nat), vs[i]? = some x → w1.cell? ⟨vb, vo + i, none⟩ = some (.int .u64 (x : Int))) := fun i x hx => (far vb _ hvb hsep).trans (HV.out i x hx)
  have hnb : nbk ∉ bs := fun h => absurd (hbs nbk h) (by omega)
  clear far m0 m1 m2 m3 q2 q4
  go_upto_block 2 with fail
  refine wp_last ?_
  refine ckWrites w1 N C mk nbk (Nat.le_trans hCw hs1) ms bs hbs HBE HM1 (Nat.lt_of_lt_of_le hmk hs1) hmn m0' a4 c4 q4' (Nat.lt_of_lt_of_le hnbk (Nat.le_trans hCw hs1)) hnb HW1 b6 o6 c6 m3' (Nat.lt_of_lt_of_le h6 hs1) h6n H61 vs vb vo cv m1' (Nat.lt_of_lt_of_le hvb hs1) hvn HV1 hbig hinW hlenW _ _ _ _ _ _ _ _ _ _ _ _ _ _ _ _ _ _ _ _ _ _ _ _ _ _ _ _ _ _ _ _ _ _ _ _ _ _ _ _ _ _ _ _ _ _ _ _ _ _ _ _ _ _ _ _ _ _ _ _ _ _ _ _ _ _ _ _ _ _ _ _ _ _ _ _ _ _ _ _ _ _ _ _ _ _ _ _ _ _ _ _ _ _ _ _ _ _ _ _ _ _ _ _ _ _ _ _ _ _ _ _ _ ?_
  intro w2 u3 u4 u5 u6 u50 u51 u52 u53 u54 u55 u56 u57 u58 u59 u60 u61 u62 u63 u64 u65 u66 u67 u68 u69 u70 u71 u72 u73 u74 u75 u76 u77 u78 u79 u80 u81 u82 u83 u84 u85 u86 u87 u88 u89 u90 u91 u92 u93 u94 u95 u96 u97 u98 u99 u100 u101 u102 u103 u104 u105 u106 u107 u108 u109 u110 u111 u112 u113 hcut
  obtain ⟨hM2, hO2⟩ := hcut
  have HM2 := hidden hM2
  have HO2 := hidden hO2
  clear hM2 hO2
  go_end0
  exact ⟨⟨_, rfl⟩, own_oth HO1.out HO2.out (fun k hk => by cases hk; exact hgn), HM2.out, (Oth.of_grown HG1.out (List.mem_cons_self ..)).trans ⟨HO2.out.os, HO2.out.tape, HO2.out.output, HO2.out.size, fun k hk hr => HO2.out.block k hk (fun h => hr (List.mem_cons_of_mem _ h))⟩⟩

end Go.Proofs.Ytlkhmcajedjojaa

namespace Go.Proofs.Ytlkhmcajedjojaa
open Go.RowKit

theorem rowAt_none {B : Nat} {w : World} {a : Option Addr} {sz : Nat} : RowAt B w a sz [] := fun h => absurd rfl h
/-- a slice of words -/
def US (w : World) (v : Value) (l : List Nat) : Prop := (v = .slice none 0 0 ∧ l = []) ∨ ∃ b o c, v = .slice (some ⟨b, o, none⟩) l.length c ∧ b < w.heap.size ∧ ∀ (i : Nat) (x : Nat), l[i]? = some x → w.cell? ⟨b, o + i, none⟩ = some (.int .u64 (x : Int))
theorem US.to {w w' : World} {v : Value} {l : List Nat} (h : US w v l) (hb : Below w.heap.size w w') : US w' v l := by
  rcases h with h | ⟨b, o, c, hv, hlt, hc⟩
  · exact .inl h
  · exact .inr ⟨b, o, c, hv, Nat.lt_of_lt_of_le hlt hb.size, fun i x hx => (hb.cell (p := ⟨b, o + i, none⟩) hlt).trans (hc i x hx)⟩
theorem US.of {w : World} {C n : Nat} {v : Value} {l : List Nat} (h : w.ownsRow C 33 1 v n (l.map uV)) : US w v l := by
  have hl : n = l.length := by have := h.1; simp at this; omega
  rcases h.2 with ⟨h0, h1⟩ | ⟨g, cap, cur, hv, h1⟩
  · exact .inl ⟨h0, List.eq_nil_of_length_eq_zero (by omega)⟩
  · refine .inr ⟨g, 0, cap, by rw [hv, hl], (h.lt g (by rw [hv]; rfl)).2, fun i x hx => ?_⟩
    have := h.cells (g := g) (by rw [hv]; rfl) i (.int .u64 (x : Int)) (by rw [List.getElem?_map, hx]; rfl)
    rw [add0] at this
    simpa using this
theorem US.row {w : World} {v : Value} {l : List Nat} (h : US w v l) : ∃ a c, v = .slice a l.length c ∧ RowAt w.heap.size w a 1 (l.map uN) := by
  rcases h with ⟨rfl, rfl⟩ | ⟨b, o, c, hv, hlt, hc⟩
  · exact ⟨none, 0, rfl, rowAt_none⟩
  · refine ⟨_, c, hv, fun _ => ⟨b, o, rfl, hlt, fun i cs hi j x hx => ?_⟩⟩
    rw [List.getElem?_map] at hi
    cases hy : l[i]? with
    | none => rw [hy] at hi; cases hi
    | some y =>
      rw [hy] at hi
      have e : [Value.int .u64 (y : Int)] = cs := by simpa [uN] using hi
      subst e
      cases j with
      | succ j => simp at hx
      | zero =>
        have ex : Value.int .u64 (y : Int) = x := by simpa using hx
        subst ex
        simpa using hc i y hy

/-- they lie in other blocks -/
def Far (a b : Value) : Prop := ∀ x, a.ownBlock = some x → b.ownBlock ≠ some x
theorem US.blk {w : World} {v : Value} {l : List Nat} (h : US w v l) : ∀ x, v.ownBlock = some x → x < w.heap.size := by
  intro x hx
  rcases h with ⟨rfl, _⟩ | ⟨b, o, c, rfl, hlt, _⟩
  · cases hx
  · cases hx; exact hlt
theorem US.kept {w w' : World} {v : Value} {l : List Nat} {row : Option Nat} (h : US w v l) (hg : w.grownBy w' row) (hne : ∀ x, row = some x → v.ownBlock ≠ some x) : US w' v l := by
  rcases h with h | ⟨b, o, c, rfl, hlt, hc⟩
  · exact .inl h
  · refine .inr ⟨b, o, c, rfl, Nat.lt_of_lt_of_le hlt hg.size, fun i x hx => ?_⟩
    refine (World.cell?_of_block (w := w) (a := ⟨b, o + i, none⟩) (hg.block b hlt ?_)).trans (hc i x hx)
    intro e
    exact hne b e.symm rfl
theorem Far.new {w : World} {a b : Value} {l : List Nat} (h : Far a b) (hb : US w b l) {g H m cap : Nat} (hg : a.ownBlock = some g ∨ g = H) (hH : w.heap.size ≤ H) : Far (.slice (some ⟨g, 0, none⟩) m cap) b := by
  intro x hx
  have e : g = x := by cases hx; rfl
  subst e
  rcases hg with hg | hg
  · exact h g hg
  · intro hb2
    have := hb.blk g hb2
    omega
theorem far_own {w w' : World} {C e e' n m C' : Nat} {a b : Value} {xs ys : List Value} (ha : w.ownsRow C e 1 a n xs) (hb : w'.ownsRow C' e' 1 b m ys) (hC : w.heap.size ≤ C') : Far a b := by
  intro x hx hy
  have h1 := (ha.lt x hx).2
  have h2 := (hb.lt x hy).1
  omega


/-- a row that is told -/
structure RW where
  v : Value
  l : List Nat
/-- what a write does to the words alone -/
def wrL (vs : List Nat) (ls : List (List Nat)) (z : WrD) : List (List Nat) :=
  match ls[z.mem.toNat]? with
  | some l => if vAt vs z.when_ ≠ 0 ∧ vAt vs z.addr < l.length then ls.set z.mem.toNat (l.set (vAt vs z.addr) (vAt vs z.data)) else ls
  | none => ls
theorem wr_l (vs : List Nat) (ms : List MB) (z : WrD) : (wrStep vs ms z).map MB.l = wrL vs (ms.map MB.l) z := by
  unfold wrStep wrL
  rw [List.getElem?_map]
  cases hm : ms[z.mem.toNat]? with
  | none => rfl
  | some m =>
    simp only [Option.map_some]
    split
    · rw [List.map_set]
    · rfl
theorem fold_l (vs : List Nat) (zs : List WrD) (ms : List MB) : (zs.foldl (wrStep vs) ms).map MB.l = zs.foldl (wrL vs) (ms.map MB.l) := by
  induction zs generalizing ms with
  | nil => rfl
  | cons z r ih => simp only [List.foldl_cons, ih, wr_l]
/-- the words of the registers and of the memories -/
structure St where
  r : List Nat
  m : List (List Nat)
def valsN (N : NetD) (row : List Nat) (s : St) : List Nat := evalN N row s.r s.m N.nodes.length
def nextR (N : NetD) (vs : List Nat) : List Nat := N.regs.map fun z => vAt vs z.next
def stepN (N : NetD) (row : List Nat) (s : St) : St := ⟨nextR N (valsN N row s), N.wrs.foldl (wrL (valsN N row s)) s.m⟩
def outsN (N : NetD) (vs : List Nat) : List Nat := N.outs.map (vAt vs)
def stW (N : NetD) (s : St) (tr : List (List Nat)) : St := tr.foldl (fun s r => stepN N r s) s
def runW (N : NetD) : List (List Nat) → St → List (List Nat)
  | [], _ => []
  | r :: t, s => outsN N (valsN N r s) :: runW N t (stepN N r s)
theorem runW_snoc (N : NetD) (l : List (List Nat)) (r : List Nat) (s : St) : runW N (l ++ [r]) s = runW N l s ++ [outsN N (valsN N r (stW N s l))] := by
  induction l generalizing s with
  | nil => rfl
  | cons a t ih => simp only [List.cons_append, runW, ih]; rfl
theorem stW_snoc (N : NetD) (l : List (List Nat)) (r : List Nat) (s : St) : stW N s (l ++ [r]) = stepN N r (stW N s l) := by
  unfold stW; rw [List.foldl_append]; rfl
theorem runW_each (N : NetD) (tr : List (List Nat)) (s : St) : ∀ x, x ∈ runW N tr s → x.length = N.outs.length := by
  induction tr generalizing s with
  | nil => intro x hx; cases hx
  | cons r t ih =>
    intro x hx
    rcases List.mem_cons.1 hx with rfl | hx
    · unfold outsN; simp
    · exact ih _ x hx
def initR (N : NetD) : List Nat := N.regs.map fun r => r.init.toNat
def initM (N : NetD) : List (List Nat) := N.mems.map fun m => List.replicate m.words.toNat 0
def initW (N : NetD) : St := ⟨initR N, initM N⟩
def SOk (N : NetD) (s : St) : Prop := StOk N s.r s.m

structure NetParts (N : NetD) : Prop where
  reg : ∀ z, z ∈ N.regs → (1 ≤ z.width ∧ z.width ≤ 32) ∧ z.init ≤ maskN z.width
  mem : ∀ z, z ∈ N.mems → (1 ≤ z.width ∧ z.width ≤ 32) ∧ 1 ≤ z.words ∧ z.words ≤ 256
  next : ∀ z, z ∈ N.regs → wideOf N z.next z.width = true
  wr : ∀ z, z ∈ N.wrs → (0 ≤ z.mem ∧ z.mem < (N.mems.length : Int) ∧ 0 ≤ z.addr ∧ z.addr < (N.nodes.length : Int)) ∧ wideOf N z.when_ 1 = true ∧ wideOf N z.data (memW N z.mem) = true
  out : ∀ a, a ∈ N.outs → 0 ≤ a ∧ a < (N.nodes.length : Int)
theorem net_parts {N : NetD} (h : NetOk N = true) : NetParts N := by
  unfold NetOk at h
  simp only [Bool.and_eq_true] at h
  obtain ⟨⟨⟨⟨⟨⟨_, h2⟩, h3⟩, _⟩, h5⟩, h6⟩, h7⟩ := h
  refine ⟨fun z hz => ?_, fun z hz => ?_, fun z hz => List.all_eq_true.1 h5 z hz, fun z hz => ?_, fun a ha => ?_⟩
  · have := List.all_eq_true.1 h2 z hz
    simp only [regOk, widthOk, Bool.and_eq_true, decide_eq_true_eq] at this
    exact this
  · have := List.all_eq_true.1 h3 z hz
    simp only [memOk, widthOk, Bool.and_eq_true, decide_eq_true_eq] at this
    exact this
  · have := List.all_eq_true.1 h6 z hz
    simp only [wrOk, Bool.and_eq_true, decide_eq_true_eq] at this
    exact ⟨this.1.1, this.1.2, this.2⟩
  · have := List.all_eq_true.1 h7 a ha
    simpa only [outOk, decide_eq_true_eq] using this
theorem wide_some {N : NetD} {i x : Int} (h : wideOf N i x = true) : 0 ≤ i ∧ i < (N.nodes.length : Int) ∧ ∃ d, N.nodes[i.toNat]? = some d ∧ d.width = x := by
  unfold wideOf at h
  simp only [decide_eq_true_eq] at h
  obtain ⟨h0, d, hd, hw⟩ := h
  have := (List.getElem?_eq_some_iff.1 hd).1
  exact ⟨h0, by omega, d, hd, hw⟩
theorem vAt_lt {N : NetD} {vs : List Nat} (hl : vs.length = N.nodes.length) (hv : VsOk N vs) {i x : Int} (h : wideOf N i x = true) : vAt vs i < 2 ^ x.toNat := by
  obtain ⟨h0, h1, d, hd, hw⟩ := wide_some h
  obtain ⟨y, hy⟩ : ∃ y, vs[i.toNat]? = some y := ⟨vs[i.toNat]'(by omega), List.getElem?_eq_getElem (by omega)⟩
  unfold vAt
  rw [hy, ← hw]
  exact hv _ y d hy hd
theorem wrL_ok {N : NetD} {vs : List Nat} (hl : vs.length = N.nodes.length) (hv : VsOk N vs) {z : WrD} (hz : wideOf N z.data (memW N z.mem) = true) {regs : List Nat} {ls : List (List Nat)} (h : StOk N regs ls) : StOk N regs (wrL vs ls z) := by
  unfold wrL
  cases hm : ls[z.mem.toNat]? with
  | none => exact h
  | some l =>
    simp only
    split
    · refine ⟨h.rl, h.rr, by rw [List.length_set]; exact h.ml, fun i l' q hl' hq => ?_⟩
      by_cases hi : i = z.mem.toNat
      · subst hi
        rw [List.getElem?_set_self (List.getElem?_eq_some_iff.1 hm).1] at hl'
        cases hl'
        have := h.mm _ l q hm hq
        refine ⟨by rw [List.length_set]; exact this.1, fun x hx => ?_⟩
        rcases List.mem_or_eq_of_mem_set hx with hx | rfl
        · exact this.2 x hx
        · have hd := vAt_lt hl hv hz
          rw [show memW N z.mem = q.width by unfold memW; rw [hq]; rfl] at hd
          exact hd
      · rw [List.getElem?_set_ne (Ne.symm hi)] at hl'
        exact h.mm i l' q hl' hq
    · exact h
theorem vals_length (N : NetD) (row : List Nat) (s : St) : (valsN N row s).length = N.nodes.length := eval_length _ _ _ _ _
theorem step_ok {B : Nat} {w : World} {S : NetS} {N : NetD} (hat : NetAt B w S N) (hok : NetOk N = true) (row : List Nat) {s : St} (h : SOk N s) : SOk N (stepN N row s) := by
  have P := net_parts hok
  have hv : VsOk N (valsN N row s) := eval_ok hat hok row s.r s.m h _
  have hl := vals_length N row s
  have h1 : StOk N (nextR N (valsN N row s)) s.m := by
    refine ⟨by unfold nextR; simp, fun i x z hx hz => ?_, h.ml, h.mm⟩
    unfold nextR at hx
    rw [List.getElem?_map, hz] at hx
    have e : vAt (valsN N row s) z.next = x := by simpa using hx
    rw [← e]
    exact vAt_lt hl hv (P.next z (List.mem_of_getElem? hz))
  show StOk N (nextR N (valsN N row s)) (N.wrs.foldl (wrL (valsN N row s)) s.m)
  have : ∀ (zs : List WrD) (ls : List (List Nat)), (∀ z, z ∈ zs → z ∈ N.wrs) → StOk N (nextR N (valsN N row s)) ls → StOk N (nextR N (valsN N row s)) (zs.foldl (wrL (valsN N row s)) ls) := by
    intro zs
    induction zs with
    | nil => intro ls _ h; exact h
    | cons z r ih =>
      intro ls hin h
      exact ih _ (fun y hy => hin y (List.mem_cons_of_mem _ hy)) (wrL_ok hl hv (P.wr z (hin z List.mem_cons_self)).2.2 h)
  exact this _ _ (fun z hz => hz) h1
theorem init_ok {B : Nat} {w : World} {S : NetS} {N : NetD} (hat : NetAt B w S N) (hok : NetOk N = true) : SOk N (initW N) := by
  have P := net_parts hok
  refine ⟨by simp [initW, initR], fun i x z hx hz => ?_, by simp [initW, initM], fun i l z hl hz => ?_⟩
  · have hx' : (initR N)[i]? = some x := hx
    unfold initR at hx'
    rw [List.getElem?_map, hz] at hx'
    have e : z.init.toNat = x := by simpa using hx'
    have h1 := (P.reg z (List.mem_of_getElem? hz)).2
    have h2 := (hat.ra z (List.mem_of_getElem? hz)).1
    unfold maskN at h1
    omega
  · have hl' : (initM N)[i]? = some l := hl
    unfold initM at hl'
    rw [List.getElem?_map, hz] at hl'
    have e : List.replicate z.words.toNat 0 = l := by simpa using hl'
    rw [← e]
    refine ⟨by simp, fun x hx => ?_⟩
    rw [List.eq_of_mem_replicate hx]
    exact Nat.two_pow_pos _
theorem stW_ok {B : Nat} {w : World} {S : NetS} {N : NetD} (hat : NetAt B w S N) (hok : NetOk N = true) (tr : List (List Nat)) {s : St} (h : SOk N s) : SOk N (stW N s tr) := by
  induction tr generalizing s with
  | nil => exact h
  | cons r t ih => exact ih (step_ok hat hok r h)

end Go.Proofs.Ytlkhmcajedjojaa
