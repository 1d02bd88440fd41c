import Derived.Test.YtjbnejjjbdalaaaDoorFaL
namespace Go.Proofs.YtjbnejjjbdalaaaDoor
open Go.RowKit

theorem info_col : ∃ i, Tryd.prog.info? 50 = some i ∧ i.zero = some (.slice none 0 0) ∧ i.size = 1 ∧ i.bytes = 24 := by
  have h : (Tryd.prog.info? 50).map (fun i => (i.zero, i.size, i.bytes)) = some (some (.slice none 0 0), 1, 24) := by kernel_rfl
  cases hi : Tryd.prog.info? 50 with
  | none => rw [hi] at h; simp at h
  | some i => rw [hi] at h; simp at h; exact ⟨i, rfl, h.1, h.2.1, h.2.2⟩
theorem info_cfg : ∃ i, Tryd.prog.info? 57 = some i ∧ i.zero = some (.agg #[.int .i64 0, .bool false]) ∧ i.size = 2 ∧ i.bytes = 16 := by
  have h : (Tryd.prog.info? 57).map (fun i => (i.zero, i.size, i.bytes)) = some (some (.agg #[.int .i64 0, .bool false]), 2, 16) := by kernel_rfl
  cases hi : Tryd.prog.info? 57 with
  | none => rw [hi] at h; simp at h
  | some i => rw [hi] at h; simp at h; exact ⟨i, rfl, h.1, h.2.1, h.2.2⟩
theorem info_int : ∃ i, Tryd.prog.info? 3 = some i ∧ i.zero = some (.int .i64 0) ∧ i.size = 1 ∧ i.bytes = 8 := by
  have h : (Tryd.prog.info? 3).map (fun i => (i.zero, i.size, i.bytes)) = some (some (.int .i64 0), 1, 8) := by kernel_rfl
  cases hi : Tryd.prog.info? 3 with
  | none => rw [hi] at h; simp at h
  | some i => rw [hi] at h; simp at h; exact ⟨i, rfl, h.1, h.2.1, h.2.2⟩

theorem Kp.grow {gs : List Nat} {a w w' : World} {row : Option Nat} (h : Kp gs a w) (hg : w.grownBy w' row) (hr : ∀ k, row = some k → a.heap.size ≤ k) : Kp gs a w' :=
  ⟨hg.os.trans h.os, hg.tape.trans h.tape, hg.output.trans h.output, Nat.le_trans h.size hg.size, fun k hk hn => (hg.block k (Nat.lt_of_lt_of_le hk h.size) (fun e => by have := hr k e.symm; omega)).trans (h.block k hk hn)⟩
theorem But.of_drew {g : Nat} {w v : World} (h : But g w.drew v) : But g w v := ⟨h.os, h.tape, h.output, h.size, h.block⟩
/-! What bits tell: columns, registers, outputs (pure) -/
def kO (k0 k1 i : Nat) : Nat := if i = 0 then k0 else k1
def posC (nw k0 k1 : Nat) : Nat → Nat
  | 0 => 80
  | i + 1 => posC nw k0 k1 i + nw * cw (kO k0 k1 i)
def colF (nm : Nat → Nat → Nat) (nw k0 k1 i : Nat) : List CeD := clS nm (posC nw k0 k1 i) (kO k0 k1 i) nw
def regF (nm : Nat → Nat → Nat) (P k1 j : Nat) : RgD := ⟨(nm (P + j * (1 + k1) + 1) k1 : Nat), decide (nm (P + j * (1 + k1)) 1 = 1)⟩
def outF (nm : Nat → Nat → Nat) (P k1 j : Nat) : Int := (nm (P + j * k1) k1 : Nat)
theorem inR_nat (s x : Nat) : inR (s : Int) (x : Int) = decide (x < s) := by
  unfold inR
  by_cases h : x < s
  · rw [decide_eq_true h, decide_eq_true (by omega)]
  · rw [decide_eq_false h, decide_eq_false (by omega)]
theorem bad_more (b : Bool) (s x : Nat) : (!b || decide (s ≤ x)) = !(b && inR (s : Int) (x : Int)) := by
  rw [inR_nat]
  by_cases h : x < s
  · rw [decide_eq_true h, decide_eq_false (by omega)]; cases b <;> rfl
  · rw [decide_eq_false h, decide_eq_true (by omega)]; cases b <;> rfl

/-- what fill leaves -/
def FillP (w w' : World) (cb lb : Nat) (sh : ShD) (rg : List RgD) (ou : List Int) (cs : List (List CeD)) (ar : Array Value) : Prop := ∃ base v1 v2 v3 cols, w.heap.size ≤ base ∧ CbAt base w' cb sh v1 v2 v3 cols rg ou ∧ cols.map ClD.cs = cs ∧ Kp [lb, cb] w w' ∧ Blk w' lb 79 ar

set_option maxRecDepth 100000 in
set_option maxHeartbeats 16000000 in
theorem fill_any (B : Nat) (w : World) (lb cb : Nat) (hB : B ≤ lb) (hBc : B ≤ cb) (hBw : B ≤ w.heap.size) (hcl : cb ≠ lb) (a : Option Addr) (c : Nat) (bs : List Nat) (ni no nr nw nc : Nat) (sh : ShD) (hsh : sh = ⟨(ni : Int), (no : Int), (nr : Int), (nw : Int), (nc : Int)⟩)
    (h1 : ni ≤ 500) (h2 : no ≤ 500) (h3 : nr ≤ 500) (h4 : nw ≤ 500) (h5 : nc ≤ 100) (h6 : 1 ≤ nc)
    (hb : Blk w lb 79 (ldQ a bs c 80 false)) (hbc : Blk w cb 32 (cfA sh (.slice none 0 0) (.slice none 0 0) (.slice none 0 0))) (R : RowAt B w a 1 (bs.map byteC)) (hl : bs.length < 281474976710656) (hby : ∀ x, x ∈ bs → x < 256)
    (k0 k1 : Nat) (hk0 : wid (2 + ni + nr) = k0) (hk1 : wid (2 + nw) = k1) (P Q : Nat) (hP : P = posC nw k0 k1 nc) (hQ : Q = P + nr * (1 + k1)) :
    Calls Tryd.prog 30 #[.pointer (some ⟨lb, 0, none⟩), .pointer (some ⟨cb, 0, none⟩)] w fun e w' => (∃ v, e = .returned v) ∧ FillP w w' cb lb sh ((List.range nr).map (regF (numN bs) P k1)) ((List.range no).map (outF (numN bs) Q k1)) ((List.range nc).map (colF (numN bs) nw k0 k1))
      (ldQ a bs c (Q + no * k1) (!(((List.range nc).all fun i => (colF (numN bs) nw k0 k1 i).all (CeD.ok (sh.src i))) && ((List.range nr).map (regF (numN bs) P k1)).all (RgD.ok (2 + nw : Nat)) && ((List.range no).map (outF (numN bs) Q k1)).all (inR (2 + nw : Nat))))) := by
  obtain ⟨s1, HS1⟩ : ∃ s1 : Nat, Hid (s1 = 2 + nw) := ⟨_, rfl⟩
  obtain ⟨s0, HS0⟩ : ∃ s0 : Nat, Hid (s0 = 2 + ni + nr) := ⟨_, rfl⟩
  rw [← HS0.out] at hk0
  rw [← HS1.out] at hk1 ⊢
  have hs0 : s0 ≤ 65536 := by rw [HS0.out]; omega
  have hs1 : s1 ≤ 65536 := by rw [HS1.out]; omega
  have HSO : Hid (∀ i : Nat, sh.src i = ((if i = 0 then s0 else s1 : Nat) : Int)) := fun i => by
    rw [hsh]
    unfold ShD.src
    by_cases hi : i = 0
    · subst hi
      show (if (0 : Int) = 0 then _ else _) = _
      rw [if_pos rfl, if_pos rfl, HS0.out]; simp
    · rw [if_neg (by omega), if_neg hi, HS1.out]; simp
  obtain ⟨colS, HCOL⟩ : ∃ f, Hid (colF (numN bs) nw k0 k1 = f) := ⟨_, rfl⟩
  obtain ⟨pC, HPC⟩ : ∃ f, Hid (posC nw k0 k1 = f) := ⟨_, rfl⟩
  obtain ⟨colsOk, HOK⟩ : ∃ f : Nat → Bool, Hid (∀ n, f n = (List.range n).all fun i => (colS i).all (CeD.ok (sh.src i))) := ⟨_, fun _ => rfl⟩
  obtain ⟨regS, HRS⟩ : ∃ f, Hid (regF (numN bs) P k1 = f) := ⟨_, rfl⟩
  obtain ⟨outS, HOS⟩ : ∃ f, Hid (outF (numN bs) Q k1 = f) := ⟨_, rfl⟩
  rw [HCOL.out, HRS.out, HOS.out, ← HOK.out nc]
  obtain ⟨fin, HFIN⟩ : ∃ f, Hid (ldQ a bs c (Q + no * k1) (!(colsOk nc && ((List.range nr).map regS).all (RgD.ok s1) && ((List.range no).map outS).all (inR s1))) = f) := ⟨_, rfl⟩
  rw [HFIN.out]
  obtain ⟨rg, HRG⟩ : ∃ f, Hid ((List.range nr).map regS = f) := ⟨_, rfl⟩
  obtain ⟨ou, HOU⟩ : ∃ f, Hid ((List.range no).map outS = f) := ⟨_, rfl⟩
  obtain ⟨cls, HCLS⟩ : ∃ f, Hid ((List.range nc).map colS = f) := ⟨_, rfl⟩
  rw [HRG.out, HOU.out, HCLS.out]
  have HCO0 : Hid (∀ (v : World) (i : Nat) (b : Bool), Below B w v → B ≤ v.heap.size → Blk v lb 79 (ldQ a bs c (pC i) b) → Calls Tryd.prog 38 #[.pointer (some ⟨lb, 0, none⟩), .int .i64 (nw : Int), .int .i64 ((if i = 0 then s0 else s1 : Nat) : Int)] v fun e w' => ∃ g, e = .returned (.slice (some ⟨g, 0, none⟩) nw nw) ∧ v.heap.size ≤ g ∧ But lb v w' ∧ Blk w' lb 79 (ldQ a bs c (pC (i + 1)) (b || !(colS i).all (CeD.ok (sh.src i)))) ∧ Blk w' g 53 (flatC (colS i)).toArray) := fun v i b hv hs hk => by
    rw [HSO.out i, ← HPC.out, ← HCOL.out]
    have e : wid (if i = 0 then s0 else s1) = kO k0 k1 i := by unfold kO; split <;> assumption
    have := column_any B v lb hB hs a c bs (posC nw k0 k1 i) nw (if i = 0 then s0 else s1) b (by rw [HPC.out]; exact hk) (R.to hv) hl hby (by split <;> assumption) h4
    rw [e] at this
    exact this
  have HNU : Hid (∀ (v : World) (p' : Nat) (b : Bool), Below B w v → Blk v lb 79 (ldQ a bs c p' b) → Calls Tryd.prog 39 #[.pointer (some ⟨lb, 0, none⟩), .int .i64 1] v fun e w' => e = .returned (.int .i64 ((numN bs p' 1 : Nat) : Int)) ∧ But lb v w' ∧ Blk w' lb 79 (ldQ a bs c (p' + 1) b)) := fun v p' b hv hk => number_any B v lb hB a c bs p' 1 b hk (R.to hv) hl hby (by omega)
  have HSL : Hid (∀ (v : World) (p' : Nat) (b : Bool), Below B w v → Blk v lb 79 (ldQ a bs c p' b) → Calls Tryd.prog 40 #[.pointer (some ⟨lb, 0, none⟩), .int .i64 (s1 : Int)] v fun e w' => e = .returned (.int .i64 ((numN bs p' k1 : Nat) : Int)) ∧ But lb v w' ∧ Blk w' lb 79 (ldQ a bs c (p' + k1) (b || decide (s1 ≤ numN bs p' k1)))) := fun v p' b hv hk => by
    have := selector_any B v lb hB a c bs p' s1 b hk (R.to hv) hl hby hs1
    rw [hk1] at this; exact this
  have HLS : Hid (∀ i, (colS i).length = nw) := fun i => by rw [← HCOL.out]; exact clS_len _ _ _ _
  have HLB0 := hidden hb
  have HBC0 := hidden hbc
  obtain ⟨i1, hib, hzb, hsb, hbb⟩ := info_col
  have HIi1 := hidden hib
  have HZi1 := hidden hzb
  have HSi1 := hidden hsb
  have HYi1 := hidden hbb
  obtain ⟨i2, hib2, hzb2, hsb2, hbb2⟩ := info_cfg
  have HIi2 := hidden hib2
  have HZi2 := hidden hzb2
  have HSi2 := hidden hsb2
  have HYi2 := hidden hbb2
  obtain ⟨i3, hib3, hzb3, hsb3, hbb3⟩ := info_int
  have HIi3 := hidden hib3
  have HZi3 := hidden hzb3
  have HSi3 := hidden hsb3
  have HYi3 := hidden hbb3
  have hlbw := hb.lt
  have hcbw := hbc.lt
  have HPQ := hidden (show P = pC nc ∧ Q = P + nr * (1 + k1) from ⟨by rw [hP, HPC.out], hQ⟩)
  clear hib hzb hsb hbb hib2 hzb2 hsb2 hbb2 hib3 hzb3 hsb3 hbb3 hb R hl hby hs0 hs1 hk0 hk1 hP hQ
  have y0 : w.cell? ⟨cb, 0, none⟩ = some (.int .i64 sh.ins) := hbc.cell rfl
  have y1 : w.cell? ⟨cb, 1, none⟩ = some (.int .i64 sh.outs) := hbc.cell rfl
  have y2 : w.cell? ⟨cb, 2, none⟩ = some (.int .i64 sh.regs) := hbc.cell rfl
  have y3 : w.cell? ⟨cb, 3, none⟩ = some (.int .i64 sh.rows) := hbc.cell rfl
  have y4 : w.cell? ⟨cb, 4, none⟩ = some (.int .i64 sh.cols) := hbc.cell rfl
  rw [hsh] at y0 y1 y2 y3 y4
  dsimp only at y0 y1 y2 y3 y4
  clear hbc hsh
  go_enter Tryd.func30, Tryd.ntmps30
  go_upto_region 1 with fail
  generalize hW : World.alloc w _ = W1
  have HB1 : Hid (Below w.heap.size w W1) := by rw [← hW]; exact (Below.refl _ _).alloc (Nat.le_refl _) _
  have HSB : Hid (Blk W1 w.heap.size 27 #[.int .i64 (ni : Int), .int .i64 (no : Int), .int .i64 (nr : Int), .int .i64 (nw : Int), .int .i64 (nc : Int)]) := by rw [← hW]; exact Blk.new _ _ _
  have hWs : W1.heap.size = w.heap.size + 1 := by rw [← hW]; simp
  have hlb1 : lb < W1.heap.size := by omega
  have hcb1 : cb < W1.heap.size := by omega
  obtain ⟨sb, hsb⟩ : ∃ x, x = w.heap.size := ⟨_, rfl⟩
  rw [← hsb] at HSB ⊢
  have hsl : sb ≠ lb := by omega
  have hsc : sb ≠ cb := by omega
  have HWS := hidden (show w.heap.size ≤ W1.heap.size by omega)
  have KB : Hid (∀ v, Kp [lb, cb] W1 v → Blk v sb 27 #[.int .i64 (ni : Int), .int .i64 (no : Int), .int .i64 (nr : Int), .int .i64 (nw : Int), .int .i64 (nc : Int)]) := fun v hv => hv.blk HSB.out (by simp; omega)
  have KS : Hid (∀ v, Kp [lb, cb] W1 v → v.cell? ⟨sb, 3, none⟩ = some (.int .i64 (nw : Int))) := fun v hv => (KB.out v hv).cell rfl
  have HKB : Hid (∀ v, Kp [lb, cb] W1 v → Below B w v) := fun v hv => (HB1.out.mono hBw).trans (hv.below (by simp; omega) (by omega))
  have HLB1 : Hid (Blk W1 lb 79 (ldQ a bs c 80 false)) := HLB0.out.below HB1.out
  have HCB1 : Hid (CbAt W1.heap.size W1 cb sh (.slice none 0 0) (.slice none 0 0) (.slice none 0 0) [] [] []) := ⟨hcb1, HBC0.out.below HB1.out, World.ownsRow_nil _ _ _ _, World.ownsRow_nil _ _ _ _, World.ownsRow_nil _ _ _ _, fun d hd => by simp at hd⟩
  have HE80 : Hid (pC 0 = 80 ∧ colsOk 0 = true) := ⟨by rw [← HPC.out]; rfl, by rw [HOK.out]; rfl⟩
  clear hW y0 y1 y2 y3 y4 hWs hsb HLB0 HBC0
  have y0 : W1.cell? ⟨sb, 0, none⟩ = some (.int .i64 (ni : Int)) := HSB.out.cell rfl
  have y2 : W1.cell? ⟨sb, 2, none⟩ = some (.int .i64 (nr : Int)) := HSB.out.cell rfl
  have y4 : W1.cell? ⟨sb, 4, none⟩ = some (.int .i64 (nc : Int)) := HSB.out.cell rfl
  have e0 : IntKind.i64.wrap (2 + (ni : Int)) = 2 + (ni : Int) := wrapI _ (by omega) (by omega)
  have e1 : IntKind.i64.wrap (2 + (ni : Int) + (nr : Int)) = 2 + (ni : Int) + (nr : Int) := wrapI _ (by omega) (by omega)
  have e2 : IntKind.i64.wrap (2 + (nw : Int)) = 2 + (nw : Int) := wrapI _ (by omega) (by omega)
  go_wp2_with fail
  clear y0 y2 y4 e0 e1
  go_loopw [19, 5] (fun i' s' w' => ∃ (i : Nat) (v1 : Value) (cols : List ClD), i ≤ nc ∧ i' = .int .i64 i ∧ s' = .int .i64 ((if i = 0 then s0 else s1 : Nat) : Int) ∧ Hid (CbAt W1.heap.size w' cb sh v1 (.slice none 0 0) (.slice none 0 0) cols [] []) ∧ Hid (cols.length = i) ∧ Hid (cols.map ClD.cs = (List.range i).map colS) ∧ Hid (Blk w' lb 79 (ldQ a bs c (pC i) (!colsOk i))) ∧ Hid (Kp [lb, cb] W1 w')) (fun i' _ _ => nc - (intOf i').toNat)
  case atStart => exact ⟨0, _, [], Nat.zero_le _, rfl, by rw [if_pos rfl, HS0.out]; simp, HCB1.out, rfl, rfl, by rw [HE80.out.1, HE80.out.2]; exact HLB1.out, Kp.refl _ _⟩
  case round =>
    clear HLB1 HCB1
    obtain ⟨i, v1, cols, hi, rfl, rfl, HCB, HLC, HMC, HLK, HKW⟩ := hrel
    by_cases hlt : i < nc
    · have hltI : (i : Int) < (nc : Int) := by omega
      have ei : IntKind.i64.wrap ((i : Int) + 1) = (i : Int) + 1 := wrapI _ (by omega) (by omega)
      have q1 : wr.cell? ⟨cb, 5, none⟩ = some v1 := HCB.out.box.cell rfl
      have HCO := hidden (HCO0.out wr.drew i (!colsOk i) (HKB.out _ HKW.out.drew) (by have := HKW.out.size; show B ≤ wr.heap.size; omega) HLK.out)
      generalize (if i = 0 then s0 else s1) = si at *
      have HNX : Hid ((!colsOk i || !(colS i).all (CeD.ok (sh.src i))) = !colsOk (i + 1)) := by show _ = _; rw [HOK.out (i + 1), range_next, ← HOK.out i, Bool.not_and]
      have hm1 : i + 1 ≤ maxLen := by simp only [maxLen]; omega
      have hm2 : (i + 1) * 24 ≤ 140737488355328 := by omega
      replace HLS := hidden (HLS.out i)
      replace HS1 : Hid ((((if i + 1 = 0 then s0 else s1 : Nat)) : Int) = 2 + (nw : Int)) := by show _ = _; rw [if_neg (by omega), HS1.out]; simp
      go_upto_region 4 with fail
      refine wp_region_noPanic ?_
      refine wp_region_held_drew (S := (fun w' => w'.cell? ⟨sb, 3, none⟩ = some (.int .i64 (nw : Int)))) (by kernel_rfl) (by first | assumption | exact KS.out _ HKW.out | exact KS.out _ HKW.out.drew | exact KS.out _ HK1.out | exact KS.out _ HK2.out | exact KS.out _ HK5.out | exact KS.out _ HK6.out) (fun hHeld => ?_)
      refine wpAnyH_take (i := 0) (oi := _) (v := ?_) rfl (by kernel_rfl) (by kernel_rfl) (by kernel_rfl) (fun _ _ _ h => h) (Or.inl ⟨by rfl, ?_⟩) (by assumption) ?_
      rotate_left
      · (intro w0 hSw; (try dsimp only at hSw); (try simp only [List.getElem_toArray, List.getElem_cons_zero]); go_simp; try (with_reducible rfl))
      try simp only [Act.put, List.getElem_toArray, List.getElem_cons_zero, List.setIfInBounds_toArray, List.set_cons_zero, List.set_cons_succ]
      refine wpAnyH_take (i := 1) (oi := _) (v := ?_) rfl (by kernel_rfl) (by kernel_rfl) (by kernel_rfl) (fun _ _ _ h => h) (Or.inl ⟨by rfl, ?_⟩) (by assumption) ?_
      rotate_left
      · (intro w0 hSw; (try dsimp only at hSw); (try simp only [List.getElem_toArray, List.getElem_cons_zero, List.getElem_cons_succ]); go_simp; try (with_reducible rfl))
      try simp only [Act.put, List.getElem_toArray, List.getElem_cons_zero, List.getElem_cons_succ, List.setIfInBounds_toArray, List.set_cons_zero, List.set_cons_succ]
      refine wpAnyH_take (i := 2) (oi := _) (v := ?_) rfl (by kernel_rfl) (by kernel_rfl) (by kernel_rfl) (fun _ _ _ h => h) (Or.inl ⟨by rfl, ?_⟩) (by assumption) ?_
      rotate_left
      · (intro w0 hSw; (try dsimp only at hSw); (try simp only [List.getElem_toArray, List.getElem_cons_zero, List.getElem_cons_succ]); go_simp; try (with_reducible rfl))
      try simp only [Act.put, List.getElem_toArray, List.getElem_cons_zero, List.getElem_cons_succ, List.setIfInBounds_toArray, List.set_cons_zero, List.set_cons_succ]
      refine wpAnyH_take (i := 3) (oi := _) (v := ?_) rfl (by kernel_rfl) (by kernel_rfl) (by kernel_rfl) (fun _ _ _ h => h) (Or.inl ⟨by rfl, ?_⟩) (by assumption) ?_
      rotate_left
      · (intro w0 hSw; (try dsimp only at hSw); (try simp only [List.getElem_toArray, List.getElem_cons_zero, List.getElem_cons_succ]); go_simp; try (with_reducible rfl))
      try simp only [Act.put, List.getElem_toArray, List.getElem_cons_zero, List.getElem_cons_succ, List.setIfInBounds_toArray, List.set_cons_zero, List.set_cons_succ]
      refine wpAnyH_take (i := 5) (oi := _) (v := ?_) rfl (by kernel_rfl) (by kernel_rfl) (by kernel_rfl) (fun _ _ _ h => h) (Or.inl ⟨by rfl, ?_⟩) (by assumption) ?_
      rotate_left
      · (intro w0 hSw; (try dsimp only at hSw); (try simp only [List.getElem_toArray, List.getElem_cons_zero, List.getElem_cons_succ]); go_simp; try (with_reducible rfl))
      try simp only [Act.put, List.getElem_toArray, List.getElem_cons_zero, List.getElem_cons_succ, List.setIfInBounds_toArray, List.set_cons_zero, List.set_cons_succ]
      refine wpAnyH_take (i := 6) (oi := _) (v := ?_) rfl (by kernel_rfl) (by kernel_rfl) (by kernel_rfl) (fun _ _ _ h => h) (Or.inl ⟨by rfl, ?_⟩) (by assumption) ?_
      rotate_left
      · (intro w0 hSw; (try dsimp only at hSw); (try simp only [List.getElem_toArray, List.getElem_cons_zero, List.getElem_cons_succ]); go_simp; try (with_reducible rfl))
      try simp only [Act.put, List.getElem_toArray, List.getElem_cons_zero, List.getElem_cons_succ, List.setIfInBounds_toArray, List.set_cons_zero, List.set_cons_succ]
      refine wpAnyH_take (i := 7) (oi := _) (v := ?_) rfl (by kernel_rfl) (by kernel_rfl) (by kernel_rfl) (fun _ _ _ h => h) (Or.inl ⟨by rfl, ?_⟩) (by assumption) ?_
      rotate_left
      · (intro w0 hSw; (try dsimp only at hSw); (try simp only [List.getElem_toArray, List.getElem_cons_zero, List.getElem_cons_succ]); go_simp; try (with_reducible rfl))
      try simp only [Act.put, List.getElem_toArray, List.getElem_cons_zero, List.getElem_cons_succ, List.setIfInBounds_toArray, List.set_cons_zero, List.set_cons_succ]
      refine wpAnyH_take (i := 8) (oi := _) (v := ?_) rfl (by kernel_rfl) (by kernel_rfl) (by kernel_rfl) (fun _ _ _ h => h) (Or.inl ⟨by rfl, ?_⟩) (by assumption) ?_
      rotate_left
      · (intro w0 hSw; (try dsimp only at hSw); (try simp only [List.getElem_toArray, List.getElem_cons_zero, List.getElem_cons_succ]); go_simp; try (with_reducible rfl))
      try simp only [Act.put, List.getElem_toArray, List.getElem_cons_zero, List.getElem_cons_succ, List.setIfInBounds_toArray, List.set_cons_zero, List.set_cons_succ]
      refine wpAnyH_ready (rs := [4, 9]) (by kernel_rfl) (by simp) ?_
      refine AllReadyH.cons (o := _) rfl (fun K hK => ?_) ?_
      · (try simp only [List.getElem_toArray, List.getElem_cons_zero, List.getElem_cons_succ])
        go_simp
        refine hK.out _ _ (by first | assumption | exact KS.out _ HKW.out | exact KS.out _ HKW.out.drew | exact KS.out _ HK1.out | exact KS.out _ HK2.out | exact KS.out _ HK5.out | exact KS.out _ HK6.out) (fun hHeld4 => ?_)
        clear hK K
        (try simp only [Act.put]); (try simp only [List.setIfInBounds_toArray]); (try simp only [List.set_cons_zero, List.set_cons_succ])
        refine wpAnyH_ready (rs := [9]) (by kernel_rfl) (by simp) ?_
        refine AllReadyH.cons (o := _) rfl (fun K hK => ?_) AllReadyH.nil
        (try simp only [List.getElem_toArray, List.getElem_cons_zero, List.getElem_cons_succ])
        go_simp
        go_at_call 38
        refine HCO.out.mono ?_
        rintro e v ⟨g, rfl, hg, h1, h2, h3⟩
        have HK1 : Hid (Kp [lb, cb] W1 v) := HKW.out.drew.trans (h1.kp (by simp))
        have HC1 : Hid (CbAt W1.heap.size v cb sh v1 (.slice none 0 0) (.slice none 0 0) cols [] []) := HCB.out.but (But.of_drew h1) hlb1 hcl
        have HL1 := hidden h2
        have HD1 : Hid (v.ownsRow W1.heap.size 53 5 (.slice (some ⟨g, 0, none⟩) nw nw) nw (flatC (colS i))) := own_of_blk h3 (Nat.le_trans HKW.out.size hg) (by rw [flatC_len, HLS.out]) (by simp only [maxLen]; omega)
        have HO1 : Hid (v.ownsRow W1.heap.size 50 1 v1 i (cols.map ClD.val)) := by have := HC1.out.o1; rwa [HLC.out] at this
        have HO2 := hidden (HO1.out.alloc (.cells #[.slice (some ⟨g, 0, none⟩) nw nw] 50))
        have HZ2 : Hid (W1.heap.size ≤ (v.alloc (.cells #[.slice (some ⟨g, 0, none⟩) nw nw] 50)).heap.size) := Nat.le_trans HK1.out.size (by simp)
        have q2 : v.cell? ⟨cb, 5, none⟩ = some v1 := HC1.out.box.cell rfl
        have HK2 : Hid (Kp [lb, cb] W1 (v.alloc (.cells #[.slice (some ⟨g, 0, none⟩) nw nw] 50))) := HK1.out.trans (Below.kp ((Below.refl _ _).alloc (Nat.le_refl _) _))
        have q3 : (v.alloc (.cells #[.slice (some ⟨g, 0, none⟩) nw nw] 50)).cell? ⟨cb, 5, none⟩ = some v1 := (HC1.out.box.below ((Below.refl _ _).alloc (Nat.le_refl _) _)).cell rfl
        clear h1 h2 h3 hg
        go_wp2_with fail
        refine hK.out _ _ (by first | assumption | exact KS.out _ HKW.out | exact KS.out _ HKW.out.drew | exact KS.out _ HK1.out | exact KS.out _ HK2.out | exact KS.out _ HK5.out | exact KS.out _ HK6.out) (fun hHeld9 => ?_)
        clear hK K
        (try simp only [Act.put]); (try simp only [List.setIfInBounds_toArray]); (try simp only [List.set_cons_zero, List.set_cons_succ])
        refine wpAnyH_ready (rs := [10]) (by kernel_rfl) (by simp) ?_
        refine AllReadyH.cons (o := _) rfl (fun K hK => ?_) AllReadyH.nil
        (try simp only [List.getElem_toArray, List.getElem_cons_zero, List.getElem_cons_succ])
        go_simp
        refine hK.out _ _ (by first | assumption | exact KS.out _ HKW.out | exact KS.out _ HKW.out.drew | exact KS.out _ HK1.out | exact KS.out _ HK2.out | exact KS.out _ HK5.out | exact KS.out _ HK6.out) (fun hHeld10 => ?_)
        clear hK K
        (try simp only [Act.put]); (try simp only [List.setIfInBounds_toArray]); (try simp only [List.set_cons_zero, List.set_cons_succ])
        refine wpAnyH_ready (rs := [11]) (by kernel_rfl) (by simp) ?_
        refine AllReadyH.cons (o := _) rfl (fun K hK => ?_) AllReadyH.nil
        refine step_append_lies _ rfl (.tmp 25) (.tmp 31) 28 rfl W1.heap.size 50 i1 _ 1 24 Tryd.underlying28 HIi1.out HZi1.out HSi1.out HYi1.out rfl (by decide) v1 i _ rfl HO2.out ⟨v.heap.size, 0, none⟩ 1 1 [.slice (some ⟨g, 0, none⟩) nw nw] rfl rfl (World.news_of_block (heap_new _ _)) (by simp [Value.oneCell']) (by decide) hm1 hm2 HZ2.out _ rfl ?_
        intro g5 cap w5 hown hgrow hat hlt5
        have HG5 : Hid (v.grownBy w5 v1.ownBlock) := grown_trans (World.grownBy_alloc _ _ _) hgrow
        have HOW := hidden hown
        have HK5 : Hid (Kp [lb, cb] W1 w5) := HK1.out.grow HG5.out (fun k hk => (HO1.out.lt k hk).1)
        have hB5 : Blk w5 cb 32 _ := (HG5.out.block cb HC1.out.box.lt (fun e => by have := (HO1.out.lt cb e.symm).1; have := HC1.out.lt; omega)).trans HC1.out.box
        have c5 : w5.cell? ⟨cb, 5, none⟩ = some v1 := hB5.cell rfl
        have f5 := hB5.frozen 5
        clear hown hgrow hat hlt5 hB5
        have HK6 : Hid (Kp [lb, cb] W1 (w5.setCell ⟨cb, 5, none⟩ (.slice (some ⟨g5, 0, none⟩) (i + 1) cap))) := HK5.out.trans (Kp.set _ _ _ _ _ (by simp))
        refine hK.out _ _ (by first | assumption | exact KS.out _ HKW.out | exact KS.out _ HKW.out.drew | exact KS.out _ HK1.out | exact KS.out _ HK2.out | exact KS.out _ HK5.out | exact KS.out _ HK6.out) (fun hHeld11 => ?_)
        clear hK K
        (try simp only [Act.put]); (try simp only [List.setIfInBounds_toArray]); (try simp only [List.set_cons_zero, List.set_cons_succ])
        refine wpAnyH_take (i := 12) (oi := _) (v := ?_) rfl (by kernel_rfl) (by kernel_rfl) (by kernel_rfl) (fun _ _ _ h => h) (Or.inl ⟨by rfl, ?_⟩) (by assumption) ?_
        rotate_left
        · (intro w0 hSw; (try dsimp only at hSw); (try simp only [List.getElem_toArray, List.getElem_cons_zero, List.getElem_cons_succ]); go_simp; try (with_reducible rfl))
        try simp only [Act.put, List.getElem_toArray, List.getElem_cons_zero, List.getElem_cons_succ, List.setIfInBounds_toArray, List.set_cons_zero, List.set_cons_succ]
        refine wpAnyH_take (i := 13) (oi := _) (v := ?_) rfl (by kernel_rfl) (by kernel_rfl) (by kernel_rfl) (fun _ _ _ h => h) (Or.inl ⟨by rfl, ?_⟩) (by assumption) ?_
        rotate_left
        · (intro w0 hSw; (try dsimp only at hSw); (try simp only [List.getElem_toArray, List.getElem_cons_zero, List.getElem_cons_succ]); go_simp; try (with_reducible rfl))
        try simp only [Act.put, List.getElem_toArray, List.getElem_cons_zero, List.getElem_cons_succ, List.setIfInBounds_toArray, List.set_cons_zero, List.set_cons_succ]
        refine wpAnyH_ready (rs := [14]) (by kernel_rfl) (by simp) ?_
        refine AllReadyH.cons (o := _) rfl (fun K hK => ?_) AllReadyH.nil
        (try simp only [List.getElem_toArray, List.getElem_cons_zero, List.getElem_cons_succ])
        go_simp
        refine hK.out _ _ (by first | assumption | exact KS.out _ HKW.out | exact KS.out _ HKW.out.drew | exact KS.out _ HK1.out | exact KS.out _ HK2.out | exact KS.out _ HK5.out | exact KS.out _ HK6.out) (fun hHeld14 => ?_)
        clear hK K
        (try simp only [Act.put]); (try simp only [List.setIfInBounds_toArray]); (try simp only [List.set_cons_zero, List.set_cons_succ])
        refine wpAnyH_done (by kernel_rfl) ?_ _
        refine NoPanic.normal ?_
        have HC6 : Hid (CbAt W1.heap.size (w5.setCell ⟨cb, 5, none⟩ (.slice (some ⟨g5, 0, none⟩) (i + 1) cap)) cb sh (.slice (some ⟨g5, 0, none⟩) (i + 1) cap) (.slice none 0 0) (.slice none 0 0) (cols ++ [⟨some ⟨g, 0, none⟩, nw, colS i⟩]) [] []) := by
          refine HC1.out.push1 (d := ⟨some ⟨g, 0, none⟩, nw, colS i⟩) ?_ ?_ HG5.out
          · have := HD1.out
            unfold ClD.val; dsimp only; rw [HLS.out]; exact this
          · rw [HLC.out]
            have := HOW.out
            unfold ClD.val at this ⊢; dsimp only at this ⊢; rw [HLS.out]; exact this
        have HLB : Hid (Blk (w5.setCell ⟨cb, 5, none⟩ (.slice (some ⟨g5, 0, none⟩) (i + 1) cap)) lb 79 (ldQ a bs c (pC (i + 1)) (!colsOk (i + 1)))) := by
          refine (But.set cb 5 w5 _).blk ((HG5.out.block lb HL1.out.lt (fun e => by have := (HO1.out.lt lb e.symm).1; omega)).trans ?_) (Ne.symm hcl)
          have := HL1.out
          rw [HNX.out] at this
          exact this
        have HLC2 : Hid ((cols ++ [(⟨some ⟨g, 0, none⟩, nw, colS i⟩ : ClD)]).length = i + 1 ∧ (cols ++ [(⟨some ⟨g, 0, none⟩, nw, colS i⟩ : ClD)]).map ClD.cs = (List.range (i + 1)).map colS) := by
          refine ⟨by rw [List.length_append, HLC.out]; rfl, ?_⟩
          rw [List.map_append, HMC.out, List.range_succ, List.map_append]; rfl
        have z3 : (w5.setCell ⟨cb, 5, none⟩ (.slice (some ⟨g5, 0, none⟩) (i + 1) cap)).cell? ⟨sb, 3, none⟩ = some (.int .i64 (nw : Int)) := KS.out _ HK6.out
        generalize w5.setCell ⟨cb, 5, none⟩ (.slice (some ⟨g5, 0, none⟩) (i + 1) cap) = X at *
        clear HO1 HO2 HG5 HOW c5 f5 q1 q2 q3 HC1 HL1 HD1 HK5 HK1 HK2
        go_wp2
        go_roundw
        case measure => simp [intOf]; omega
        case rel => exact ⟨i + 1, _, _, by omega, by simp, by rw [HS1.out], HC6.out, HLC2.out.1, HLC2.out.2, HLB.out, HK6.out⟩
      refine AllReadyH.cons (o := _) rfl (fun K hK => ?_) AllReadyH.nil
      (try simp only [List.getElem_toArray, List.getElem_cons_zero, List.getElem_cons_succ])
      go_simp
      go_at_call 38
      refine HCO.out.mono ?_
      rintro e v ⟨g, rfl, hg, h1, h2, h3⟩
      have HK1 : Hid (Kp [lb, cb] W1 v) := HKW.out.drew.trans (h1.kp (by simp))
      have HC1 : Hid (CbAt W1.heap.size v cb sh v1 (.slice none 0 0) (.slice none 0 0) cols [] []) := HCB.out.but (But.of_drew h1) hlb1 hcl
      have HL1 := hidden h2
      have HD1 : Hid (v.ownsRow W1.heap.size 53 5 (.slice (some ⟨g, 0, none⟩) nw nw) nw (flatC (colS i))) := own_of_blk h3 (Nat.le_trans HKW.out.size hg) (by rw [flatC_len, HLS.out]) (by simp only [maxLen]; omega)
      have HO1 : Hid (v.ownsRow W1.heap.size 50 1 v1 i (cols.map ClD.val)) := by have := HC1.out.o1; rwa [HLC.out] at this
      have HO2 := hidden (HO1.out.alloc (.cells #[.slice (some ⟨g, 0, none⟩) nw nw] 50))
      have HZ2 : Hid (W1.heap.size ≤ (v.alloc (.cells #[.slice (some ⟨g, 0, none⟩) nw nw] 50)).heap.size) := Nat.le_trans HK1.out.size (by simp)
      have q2 : v.cell? ⟨cb, 5, none⟩ = some v1 := HC1.out.box.cell rfl
      have HK2 : Hid (Kp [lb, cb] W1 (v.alloc (.cells #[.slice (some ⟨g, 0, none⟩) nw nw] 50))) := HK1.out.trans (Below.kp ((Below.refl _ _).alloc (Nat.le_refl _) _))
      have q3 : (v.alloc (.cells #[.slice (some ⟨g, 0, none⟩) nw nw] 50)).cell? ⟨cb, 5, none⟩ = some v1 := (HC1.out.box.below ((Below.refl _ _).alloc (Nat.le_refl _) _)).cell rfl
      clear h1 h2 h3 hg
      go_wp2_with fail
      refine hK.out _ _ (by first | assumption | exact KS.out _ HKW.out | exact KS.out _ HKW.out.drew | exact KS.out _ HK1.out | exact KS.out _ HK2.out | exact KS.out _ HK5.out | exact KS.out _ HK6.out) (fun hHeld9 => ?_)
      clear hK K
      (try simp only [Act.put]); (try simp only [List.setIfInBounds_toArray]); (try simp only [List.set_cons_zero, List.set_cons_succ])
      refine wpAnyH_ready (rs := [4, 10]) (by kernel_rfl) (by simp) ?_
      refine AllReadyH.cons (o := _) rfl (fun K hK => ?_) ?_
      · (try simp only [List.getElem_toArray, List.getElem_cons_zero, List.getElem_cons_succ])
        go_simp
        refine hK.out _ _ (by first | assumption | exact KS.out _ HKW.out | exact KS.out _ HKW.out.drew | exact KS.out _ HK1.out | exact KS.out _ HK2.out | exact KS.out _ HK5.out | exact KS.out _ HK6.out) (fun hHeld4 => ?_)
        clear hK K
        (try simp only [Act.put]); (try simp only [List.setIfInBounds_toArray]); (try simp only [List.set_cons_zero, List.set_cons_succ])
        refine wpAnyH_ready (rs := [10]) (by kernel_rfl) (by simp) ?_
        refine AllReadyH.cons (o := _) rfl (fun K hK => ?_) AllReadyH.nil
        (try simp only [List.getElem_toArray, List.getElem_cons_zero, List.getElem_cons_succ])
        go_simp
        refine hK.out _ _ (by first | assumption | exact KS.out _ HKW.out | exact KS.out _ HKW.out.drew | exact KS.out _ HK1.out | exact KS.out _ HK2.out | exact KS.out _ HK5.out | exact KS.out _ HK6.out) (fun hHeld10 => ?_)
        clear hK K
        (try simp only [Act.put]); (try simp only [List.setIfInBounds_toArray]); (try simp only [List.set_cons_zero, List.set_cons_succ])
        refine wpAnyH_ready (rs := [11]) (by kernel_rfl) (by simp) ?_
        refine AllReadyH.cons (o := _) rfl (fun K hK => ?_) AllReadyH.nil
        refine step_append_lies _ rfl (.tmp 25) (.tmp 31) 28 rfl W1.heap.size 50 i1 _ 1 24 Tryd.underlying28 HIi1.out HZi1.out HSi1.out HYi1.out rfl (by decide) v1 i _ rfl HO2.out ⟨v.heap.size, 0, none⟩ 1 1 [.slice (some ⟨g, 0, none⟩) nw nw] rfl rfl (World.news_of_block (heap_new _ _)) (by simp [Value.oneCell']) (by decide) hm1 hm2 HZ2.out _ rfl ?_
        intro g5 cap w5 hown hgrow hat hlt5
        have HG5 : Hid (v.grownBy w5 v1.ownBlock) := grown_trans (World.grownBy_alloc _ _ _) hgrow
        have HOW := hidden hown
        have HK5 : Hid (Kp [lb, cb] W1 w5) := HK1.out.grow HG5.out (fun k hk => (HO1.out.lt k hk).1)
        have hB5 : Blk w5 cb 32 _ := (HG5.out.block cb HC1.out.box.lt (fun e => by have := (HO1.out.lt cb e.symm).1; have := HC1.out.lt; omega)).trans HC1.out.box
        have c5 : w5.cell? ⟨cb, 5, none⟩ = some v1 := hB5.cell rfl
        have f5 := hB5.frozen 5
        clear hown hgrow hat hlt5 hB5
        have HK6 : Hid (Kp [lb, cb] W1 (w5.setCell ⟨cb, 5, none⟩ (.slice (some ⟨g5, 0, none⟩) (i + 1) cap))) := HK5.out.trans (Kp.set _ _ _ _ _ (by simp))
        refine hK.out _ _ (by first | assumption | exact KS.out _ HKW.out | exact KS.out _ HKW.out.drew | exact KS.out _ HK1.out | exact KS.out _ HK2.out | exact KS.out _ HK5.out | exact KS.out _ HK6.out) (fun hHeld11 => ?_)
        clear hK K
        (try simp only [Act.put]); (try simp only [List.setIfInBounds_toArray]); (try simp only [List.set_cons_zero, List.set_cons_succ])
        refine wpAnyH_take (i := 12) (oi := _) (v := ?_) rfl (by kernel_rfl) (by kernel_rfl) (by kernel_rfl) (fun _ _ _ h => h) (Or.inl ⟨by rfl, ?_⟩) (by assumption) ?_
        rotate_left
        · (intro w0 hSw; (try dsimp only at hSw); (try simp only [List.getElem_toArray, List.getElem_cons_zero, List.getElem_cons_succ]); go_simp; try (with_reducible rfl))
        try simp only [Act.put, List.getElem_toArray, List.getElem_cons_zero, List.getElem_cons_succ, List.setIfInBounds_toArray, List.set_cons_zero, List.set_cons_succ]
        refine wpAnyH_take (i := 13) (oi := _) (v := ?_) rfl (by kernel_rfl) (by kernel_rfl) (by kernel_rfl) (fun _ _ _ h => h) (Or.inl ⟨by rfl, ?_⟩) (by assumption) ?_
        rotate_left
        · (intro w0 hSw; (try dsimp only at hSw); (try simp only [List.getElem_toArray, List.getElem_cons_zero, List.getElem_cons_succ]); go_simp; try (with_reducible rfl))
        try simp only [Act.put, List.getElem_toArray, List.getElem_cons_zero, List.getElem_cons_succ, List.setIfInBounds_toArray, List.set_cons_zero, List.set_cons_succ]
        refine wpAnyH_ready (rs := [14]) (by kernel_rfl) (by simp) ?_
        refine AllReadyH.cons (o := _) rfl (fun K hK => ?_) AllReadyH.nil
        (try simp only [List.getElem_toArray, List.getElem_cons_zero, List.getElem_cons_succ])
        go_simp
        refine hK.out _ _ (by first | assumption | exact KS.out _ HKW.out | exact KS.out _ HKW.out.drew | exact KS.out _ HK1.out | exact KS.out _ HK2.out | exact KS.out _ HK5.out | exact KS.out _ HK6.out) (fun hHeld14 => ?_)
        clear hK K
        (try simp only [Act.put]); (try simp only [List.setIfInBounds_toArray]); (try simp only [List.set_cons_zero, List.set_cons_succ])
        refine wpAnyH_done (by kernel_rfl) ?_ _
        refine NoPanic.normal ?_
        have HC6 : Hid (CbAt W1.heap.size (w5.setCell ⟨cb, 5, none⟩ (.slice (some ⟨g5, 0, none⟩) (i + 1) cap)) cb sh (.slice (some ⟨g5, 0, none⟩) (i + 1) cap) (.slice none 0 0) (.slice none 0 0) (cols ++ [⟨some ⟨g, 0, none⟩, nw, colS i⟩]) [] []) := by
          refine HC1.out.push1 (d := ⟨some ⟨g, 0, none⟩, nw, colS i⟩) ?_ ?_ HG5.out
          · have := HD1.out
            unfold ClD.val; dsimp only; rw [HLS.out]; exact this
          · rw [HLC.out]
            have := HOW.out
            unfold ClD.val at this ⊢; dsimp only at this ⊢; rw [HLS.out]; exact this
        have HLB : Hid (Blk (w5.setCell ⟨cb, 5, none⟩ (.slice (some ⟨g5, 0, none⟩) (i + 1) cap)) lb 79 (ldQ a bs c (pC (i + 1)) (!colsOk (i + 1)))) := by
          refine (But.set cb 5 w5 _).blk ((HG5.out.block lb HL1.out.lt (fun e => by have := (HO1.out.lt lb e.symm).1; omega)).trans ?_) (Ne.symm hcl)
          have := HL1.out
          rw [HNX.out] at this
          exact this
        have HLC2 : Hid ((cols ++ [(⟨some ⟨g, 0, none⟩, nw, colS i⟩ : ClD)]).length = i + 1 ∧ (cols ++ [(⟨some ⟨g, 0, none⟩, nw, colS i⟩ : ClD)]).map ClD.cs = (List.range (i + 1)).map colS) := by
          refine ⟨by rw [List.length_append, HLC.out]; rfl, ?_⟩
          rw [List.map_append, HMC.out, List.range_succ, List.map_append]; rfl
        have z3 : (w5.setCell ⟨cb, 5, none⟩ (.slice (some ⟨g5, 0, none⟩) (i + 1) cap)).cell? ⟨sb, 3, none⟩ = some (.int .i64 (nw : Int)) := KS.out _ HK6.out
        generalize w5.setCell ⟨cb, 5, none⟩ (.slice (some ⟨g5, 0, none⟩) (i + 1) cap) = X at *
        clear HO1 HO2 HG5 HOW c5 f5 q1 q2 q3 HC1 HL1 HD1 HK5 HK1 HK2
        go_wp2
        go_roundw
        case measure => simp [intOf]; omega
        case rel => exact ⟨i + 1, _, _, by omega, by simp, by rw [HS1.out], HC6.out, HLC2.out.1, HLC2.out.2, HLB.out, HK6.out⟩
      refine AllReadyH.cons (o := _) rfl (fun K hK => ?_) AllReadyH.nil
      (try simp only [List.getElem_toArray, List.getElem_cons_zero, List.getElem_cons_succ])
      go_simp
      refine hK.out _ _ (by first | assumption | exact KS.out _ HKW.out | exact KS.out _ HKW.out.drew | exact KS.out _ HK1.out | exact KS.out _ HK2.out | exact KS.out _ HK5.out | exact KS.out _ HK6.out) (fun hHeld10 => ?_)
      clear hK K
      (try simp only [Act.put]); (try simp only [List.setIfInBounds_toArray]); (try simp only [List.set_cons_zero, List.set_cons_succ])
      refine wpAnyH_ready (rs := [4]) (by kernel_rfl) (by simp) ?_
      refine AllReadyH.cons (o := _) rfl (fun K hK => ?_) AllReadyH.nil
      (try simp only [List.getElem_toArray, List.getElem_cons_zero, List.getElem_cons_succ])
      go_simp
      refine hK.out _ _ (by first | assumption | exact KS.out _ HKW.out | exact KS.out _ HKW.out.drew | exact KS.out _ HK1.out | exact KS.out _ HK2.out | exact KS.out _ HK5.out | exact KS.out _ HK6.out) (fun hHeld4 => ?_)
      clear hK K
      (try simp only [Act.put]); (try simp only [List.setIfInBounds_toArray]); (try simp only [List.set_cons_zero, List.set_cons_succ])
      refine wpAnyH_ready (rs := [11]) (by kernel_rfl) (by simp) ?_
      refine AllReadyH.cons (o := _) rfl (fun K hK => ?_) AllReadyH.nil
      refine step_append_lies _ rfl (.tmp 25) (.tmp 31) 28 rfl W1.heap.size 50 i1 _ 1 24 Tryd.underlying28 HIi1.out HZi1.out HSi1.out HYi1.out rfl (by decide) v1 i _ rfl HO2.out ⟨v.heap.size, 0, none⟩ 1 1 [.slice (some ⟨g, 0, none⟩) nw nw] rfl rfl (World.news_of_block (heap_new _ _)) (by simp [Value.oneCell']) (by decide) hm1 hm2 HZ2.out _ rfl ?_
      intro g5 cap w5 hown hgrow hat hlt5
      have HG5 : Hid (v.grownBy w5 v1.ownBlock) := grown_trans (World.grownBy_alloc _ _ _) hgrow
      have HOW := hidden hown
      have HK5 : Hid (Kp [lb, cb] W1 w5) := HK1.out.grow HG5.out (fun k hk => (HO1.out.lt k hk).1)
      have hB5 : Blk w5 cb 32 _ := (HG5.out.block cb HC1.out.box.lt (fun e => by have := (HO1.out.lt cb e.symm).1; have := HC1.out.lt; omega)).trans HC1.out.box
      have c5 : w5.cell? ⟨cb, 5, none⟩ = some v1 := hB5.cell rfl
      have f5 := hB5.frozen 5
      clear hown hgrow hat hlt5 hB5
      have HK6 : Hid (Kp [lb, cb] W1 (w5.setCell ⟨cb, 5, none⟩ (.slice (some ⟨g5, 0, none⟩) (i + 1) cap))) := HK5.out.trans (Kp.set _ _ _ _ _ (by simp))
      refine hK.out _ _ (by first | assumption | exact KS.out _ HKW.out | exact KS.out _ HKW.out.drew | exact KS.out _ HK1.out | exact KS.out _ HK2.out | exact KS.out _ HK5.out | exact KS.out _ HK6.out) (fun hHeld11 => ?_)
      clear hK K
      (try simp only [Act.put]); (try simp only [List.setIfInBounds_toArray]); (try simp only [List.set_cons_zero, List.set_cons_succ])
      refine wpAnyH_take (i := 12) (oi := _) (v := ?_) rfl (by kernel_rfl) (by kernel_rfl) (by kernel_rfl) (fun _ _ _ h => h) (Or.inl ⟨by rfl, ?_⟩) (by assumption) ?_
      rotate_left
      · (intro w0 hSw; (try dsimp only at hSw); (try simp only [List.getElem_toArray, List.getElem_cons_zero, List.getElem_cons_succ]); go_simp; try (with_reducible rfl))
      try simp only [Act.put, List.getElem_toArray, List.getElem_cons_zero, List.getElem_cons_succ, List.setIfInBounds_toArray, List.set_cons_zero, List.set_cons_succ]
      refine wpAnyH_take (i := 13) (oi := _) (v := ?_) rfl (by kernel_rfl) (by kernel_rfl) (by kernel_rfl) (fun _ _ _ h => h) (Or.inl ⟨by rfl, ?_⟩) (by assumption) ?_
      rotate_left
      · (intro w0 hSw; (try dsimp only at hSw); (try simp only [List.getElem_toArray, List.getElem_cons_zero, List.getElem_cons_succ]); go_simp; try (with_reducible rfl))
      try simp only [Act.put, List.getElem_toArray, List.getElem_cons_zero, List.getElem_cons_succ, List.setIfInBounds_toArray, List.set_cons_zero, List.set_cons_succ]
      refine wpAnyH_ready (rs := [14]) (by kernel_rfl) (by simp) ?_
      refine AllReadyH.cons (o := _) rfl (fun K hK => ?_) AllReadyH.nil
      (try simp only [List.getElem_toArray, List.getElem_cons_zero, List.getElem_cons_succ])
      go_simp
      refine hK.out _ _ (by first | assumption | exact KS.out _ HKW.out | exact KS.out _ HKW.out.drew | exact KS.out _ HK1.out | exact KS.out _ HK2.out | exact KS.out _ HK5.out | exact KS.out _ HK6.out) (fun hHeld14 => ?_)
      clear hK K
      (try simp only [Act.put]); (try simp only [List.setIfInBounds_toArray]); (try simp only [List.set_cons_zero, List.set_cons_succ])
      refine wpAnyH_done (by kernel_rfl) ?_ _
      refine NoPanic.normal ?_
      have HC6 : Hid (CbAt W1.heap.size (w5.setCell ⟨cb, 5, none⟩ (.slice (some ⟨g5, 0, none⟩) (i + 1) cap)) cb sh (.slice (some ⟨g5, 0, none⟩) (i + 1) cap) (.slice none 0 0) (.slice none 0 0) (cols ++ [⟨some ⟨g, 0, none⟩, nw, colS i⟩]) [] []) := by
        refine HC1.out.push1 (d := ⟨some ⟨g, 0, none⟩, nw, colS i⟩) ?_ ?_ HG5.out
        · have := HD1.out
          unfold ClD.val; dsimp only; rw [HLS.out]; exact this
        · rw [HLC.out]
          have := HOW.out
          unfold ClD.val at this ⊢; dsimp only at this ⊢; rw [HLS.out]; exact this
      have HLB : Hid (Blk (w5.setCell ⟨cb, 5, none⟩ (.slice (some ⟨g5, 0, none⟩) (i + 1) cap)) lb 79 (ldQ a bs c (pC (i + 1)) (!colsOk (i + 1)))) := by
        refine (But.set cb 5 w5 _).blk ((HG5.out.block lb HL1.out.lt (fun e => by have := (HO1.out.lt lb e.symm).1; omega)).trans ?_) (Ne.symm hcl)
        have := HL1.out
        rw [HNX.out] at this
        exact this
      have HLC2 : Hid ((cols ++ [(⟨some ⟨g, 0, none⟩, nw, colS i⟩ : ClD)]).length = i + 1 ∧ (cols ++ [(⟨some ⟨g, 0, none⟩, nw, colS i⟩ : ClD)]).map ClD.cs = (List.range (i + 1)).map colS) := by
        refine ⟨by rw [List.length_append, HLC.out]; rfl, ?_⟩
        rw [List.map_append, HMC.out, List.range_succ, List.map_append]; rfl
      have z3 : (w5.setCell ⟨cb, 5, none⟩ (.slice (some ⟨g5, 0, none⟩) (i + 1) cap)).cell? ⟨sb, 3, none⟩ = some (.int .i64 (nw : Int)) := KS.out _ HK6.out
      generalize w5.setCell ⟨cb, 5, none⟩ (.slice (some ⟨g5, 0, none⟩) (i + 1) cap) = X at *
      clear HO1 HO2 HG5 HOW c5 f5 q1 q2 q3 HC1 HL1 HD1 HK5 HK1 HK2
      go_wp2
      go_roundw
      case measure => simp [intOf]; omega
      case rel => exact ⟨i + 1, _, _, by omega, by simp, by rw [HS1.out], HC6.out, HLC2.out.1, HLC2.out.2, HLB.out, HK6.out⟩
    · have hge : ¬ ((i : Int) < (nc : Int)) := by omega
      obtain rfl : nc = i := by omega
      have hs1e : (if nc = 0 then s0 else s1) = s1 := if_neg (by omega)
      rw [hs1e]
      have HPE : Hid (P + 0 * (1 + k1) = pC nc) := by show _ = _; rw [HPQ.out.1]; simp
      have HLK0 : Hid (Blk wr lb 79 (ldQ a bs c (P + 0 * (1 + k1)) (!(colsOk nc && ((List.range 0).map regS).all (RgD.ok s1))))) := by show Blk _ _ _ _; rw [HPE.out]; simpa using HLK.out
      have y2 : wr.cell? ⟨sb, 2, none⟩ = some (.int .i64 (nr : Int)) := (KB.out _ HKW.out).cell rfl
      have HKW0 := HKW
      have HCB0 := HCB
      clear hs1e HLK HPE HKW HCB
      go_wp2_with fail
      clear y2
      go_loopw [41] (fun i' w' => ∃ (i : Nat) (v2 : Value), i ≤ nr ∧ i' = .int .i64 i ∧ Hid (CbAt W1.heap.size w' cb sh v1 v2 (.slice none 0 0) cols ((List.range i).map regS) []) ∧ Hid (Blk w' lb 79 (ldQ a bs c (P + i * (1 + k1)) (!(colsOk nc && ((List.range i).map regS).all (RgD.ok s1))))) ∧ Hid (Kp [lb, cb] W1 w')) (fun i' _ => nr - (intOf i').toNat)
      case atStart => exact ⟨0, _, Nat.zero_le _, rfl, HCB0.out, HLK0.out, HKW0.out⟩
      case round =>
        clear HCB0 HLK0 HKW0
        obtain ⟨i, v2, hi, rfl, HCB, HLK, HKW⟩ := hrel
        by_cases hlt : i < nr
        · have hltI : (i : Int) < (nr : Int) := by omega
          have ei : IntKind.i64.wrap ((i : Int) + 1) = (i : Int) + 1 := wrapI _ (by omega) (by omega)
          obtain ⟨x1, HX1⟩ : ∃ x, Hid (numN bs (P + i * (1 + k1)) 1 = x) := ⟨_, rfl⟩
          obtain ⟨xs, HXS⟩ : ∃ x, Hid (numN bs (P + i * (1 + k1) + 1) k1 = x) := ⟨_, rfl⟩
          obtain ⟨xi, HXI⟩ : ∃ b, Hid (decide (x1 = 1) = b) := ⟨_, rfl⟩
          have hxi : ((x1 : Int) == 1) = xi := by
            rw [← HXI.out, Bool.eq_iff_iff]; simp; omega
          have HNC := hidden (HNU.out wr _ _ (HKB.out _ HKW.out) HLK.out)
          rw [HX1.out] at HNC
          have HRI : Hid (regS i = ⟨(xs : Int), xi⟩) := by
            show _ = _
            rw [← HRS.out]; unfold regF; rw [HXS.out, HX1.out, HXI.out]
          have HNR : Hid ((List.range i).map regS ++ [(⟨(xs : Int), xi⟩ : RgD)] = (List.range (i + 1)).map regS) := by
            show _ = _
            rw [List.range_succ, List.map_append, ← HRI.out]; rfl
          have HLR : Hid (((List.range i).map regS).length = i) := by show _ = _; simp
          have HNX : Hid (P + i * (1 + k1) + 1 + k1 = P + (i + 1) * (1 + k1) ∧ (!(colsOk nc && ((List.range i).map regS).all (RgD.ok s1)) || decide (s1 ≤ xs)) = !(colsOk nc && ((List.range (i + 1)).map regS).all (RgD.ok s1))) := by
            refine ⟨by rw [Nat.add_mul i 1 (1 + k1), Nat.one_mul]; omega, ?_⟩
            rw [← HNR.out, List.all_append, bad_more, Bool.and_assoc]
            simp [RgD.ok]
          have hm1 : i + 1 ≤ maxLen := by simp only [maxLen]; omega
          have hm2 : (i + 1) * 16 ≤ 140737488355328 := by omega
          go_upto_region 10 with (go_at_call 39; refine HNC.out.mono ?_; rintro e wq ⟨rfl, h1', h2'⟩; have HKQ : Hid (Kp [lb, cb] W1 wq) := HKW.out.trans (h1'.kp (by simp)); have HCQ : Hid (CbAt W1.heap.size wq cb sh v1 v2 (.slice none 0 0) cols ((List.range i).map regS) []) := HCB.out.but h1' hlb1 hcl; have HLQ := hidden h2'; clear h1' h2' HKW HCB HLK)
          have HKW := HKQ
          have HCB := HCQ
          have HLK := HLQ
          clear HKQ HCQ HLQ HNC
          have q1 : wq.cell? ⟨cb, 6, none⟩ = some v2 := HCB.out.box.cell rfl
          have HCO := hidden (HSL.out wq.drew _ _ (HKB.out _ HKW.out.drew) HLK.out)
          rw [HXS.out] at HCO
          refine wp_region_noPanic ?_
          refine wp_region_held_drew (S := (fun w' => w'.cell? ⟨sb, 3, none⟩ = some (.int .i64 (nw : Int)))) (by kernel_rfl) (by first | assumption | exact KS.out _ HKW.out | exact KS.out _ HKW.out.drew | exact KS.out _ HK1.out | exact KS.out _ HK2.out | exact KS.out _ HK5.out | exact KS.out _ HK6.out) (fun hHeld => ?_)
          refine wpAnyH_take (i := 0) (oi := _) (v := ?_) rfl (by kernel_rfl) (by kernel_rfl) (by kernel_rfl) (fun _ _ _ h => h) (Or.inl ⟨by rfl, ?_⟩) (by assumption) ?_
          rotate_left
          · (intro w0 hSw; (try dsimp only at hSw); (try simp only [List.getElem_toArray, List.getElem_cons_zero]); go_simp; try (with_reducible rfl))
          try simp only [Act.put, List.getElem_toArray, List.getElem_cons_zero, List.setIfInBounds_toArray, List.set_cons_zero, List.set_cons_succ]
          refine wpAnyH_take (i := 1) (oi := _) (v := ?_) rfl (by kernel_rfl) (by kernel_rfl) (by kernel_rfl) (fun _ _ _ h => h) (Or.inl ⟨by rfl, ?_⟩) (by assumption) ?_
          rotate_left
          · (intro w0 hSw; (try dsimp only at hSw); (try simp only [List.getElem_toArray, List.getElem_cons_zero, List.getElem_cons_succ]); go_simp; try (with_reducible rfl))
          try simp only [Act.put, List.getElem_toArray, List.getElem_cons_zero, List.getElem_cons_succ, List.setIfInBounds_toArray, List.set_cons_zero, List.set_cons_succ]
          refine wpAnyH_take (i := 2) (oi := _) (v := ?_) rfl (by kernel_rfl) (by kernel_rfl) (by kernel_rfl) (fun _ _ _ h => h) (Or.inl ⟨by rfl, ?_⟩) (by assumption) ?_
          rotate_left
          · (intro w0 hSw; (try dsimp only at hSw); (try simp only [List.getElem_toArray, List.getElem_cons_zero, List.getElem_cons_succ]); go_simp; try (with_reducible rfl))
          try simp only [Act.put, List.getElem_toArray, List.getElem_cons_zero, List.getElem_cons_succ, List.setIfInBounds_toArray, List.set_cons_zero, List.set_cons_succ]
          refine wpAnyH_take (i := 3) (oi := _) (v := ?_) rfl (by kernel_rfl) (by kernel_rfl) (by kernel_rfl) (fun _ _ _ h => h) (Or.inl ⟨by rfl, ?_⟩) (by assumption) ?_
          rotate_left
          · (intro w0 hSw; (try dsimp only at hSw); (try simp only [List.getElem_toArray, List.getElem_cons_zero, List.getElem_cons_succ]); go_simp; try (with_reducible rfl))
          try simp only [Act.put, List.getElem_toArray, List.getElem_cons_zero, List.getElem_cons_succ, List.setIfInBounds_toArray, List.set_cons_zero, List.set_cons_succ]
          refine wpAnyH_take (i := 5) (oi := _) (v := ?_) rfl (by kernel_rfl) (by kernel_rfl) (by kernel_rfl) (fun _ _ _ h => h) (Or.inl ⟨by rfl, ?_⟩) (by assumption) ?_
          rotate_left
          · (intro w0 hSw; (try dsimp only at hSw); (try simp only [List.getElem_toArray, List.getElem_cons_zero, List.getElem_cons_succ]); go_simp; try (with_reducible rfl))
          try simp only [Act.put, List.getElem_toArray, List.getElem_cons_zero, List.getElem_cons_succ, List.setIfInBounds_toArray, List.set_cons_zero, List.set_cons_succ]
          refine wpAnyH_take (i := 6) (oi := _) (v := ?_) rfl (by kernel_rfl) (by kernel_rfl) (by kernel_rfl) (fun _ _ _ h => h) (Or.inl ⟨by rfl, ?_⟩) (by assumption) ?_
          rotate_left
          · (intro w0 hSw; (try dsimp only at hSw); (try simp only [List.getElem_toArray, List.getElem_cons_zero, List.getElem_cons_succ]); go_simp; try (with_reducible rfl))
          try simp only [Act.put, List.getElem_toArray, List.getElem_cons_zero, List.getElem_cons_succ, List.setIfInBounds_toArray, List.set_cons_zero, List.set_cons_succ]
          refine wpAnyH_take (i := 8) (oi := _) (v := ?_) rfl (by kernel_rfl) (by kernel_rfl) (by kernel_rfl) (fun _ _ _ h => h) (Or.inl ⟨by rfl, ?_⟩) (by assumption) ?_
          rotate_left
          · (intro w0 hSw; (try dsimp only at hSw); (try simp only [List.getElem_toArray, List.getElem_cons_zero, List.getElem_cons_succ]); go_simp; try (with_reducible rfl))
          try simp only [Act.put, List.getElem_toArray, List.getElem_cons_zero, List.getElem_cons_succ, List.setIfInBounds_toArray, List.set_cons_zero, List.set_cons_succ]
          refine wpAnyH_ready (rs := [4, 7]) (by kernel_rfl) (by simp) ?_
          refine AllReadyH.cons (o := _) rfl (fun K hK => ?_) ?_
          · (try simp only [List.getElem_toArray, List.getElem_cons_zero, List.getElem_cons_succ])
            go_simp
            refine hK.out _ _ (by first | assumption | exact KS.out _ HKW.out | exact KS.out _ HKW.out.drew | exact KS.out _ HK1.out | exact KS.out _ HK2.out | exact KS.out _ HK5.out | exact KS.out _ HK6.out) (fun hHeld4 => ?_)
            clear hK K
            (try simp only [Act.put]); (try simp only [List.setIfInBounds_toArray]); (try simp only [List.set_cons_zero, List.set_cons_succ])
            refine wpAnyH_ready (rs := [7]) (by kernel_rfl) (by simp) ?_
            refine AllReadyH.cons (o := _) rfl (fun K hK => ?_) AllReadyH.nil
            (try simp only [List.getElem_toArray, List.getElem_cons_zero, List.getElem_cons_succ])
            go_simp
            go_at_call 40
            refine HCO.out.mono ?_
            rintro e v ⟨rfl, h1, h2⟩
            have HK1 : Hid (Kp [lb, cb] W1 v) := HKW.out.drew.trans (h1.kp (by simp))
            have HC1 : Hid (CbAt W1.heap.size v cb sh v1 v2 (.slice none 0 0) cols ((List.range i).map regS) []) := HCB.out.but (But.of_drew h1) hlb1 hcl
            have HL1 := hidden h2
            have HO1 : Hid (v.ownsRow W1.heap.size 57 2 v2 i (((List.range i).map regS).flatMap RgD.cells)) := by have := HC1.out.o2; rwa [HLR.out] at this
            have HO2 := hidden (HO1.out.alloc (.cells #[.int .i64 (xs : Int), .bool xi] 57))
            have HZ2 : Hid (W1.heap.size ≤ (v.alloc (.cells #[.int .i64 (xs : Int), .bool xi] 57)).heap.size) := Nat.le_trans HK1.out.size (by simp)
            have q2 : v.cell? ⟨cb, 6, none⟩ = some v2 := HC1.out.box.cell rfl
            have HK2 : Hid (Kp [lb, cb] W1 (v.alloc (.cells #[.int .i64 (xs : Int), .bool xi] 57))) := HK1.out.trans (Below.kp ((Below.refl _ _).alloc (Nat.le_refl _) _))
            have q3 : (v.alloc (.cells #[.int .i64 (xs : Int), .bool xi] 57)).cell? ⟨cb, 6, none⟩ = some v2 := (HC1.out.box.below ((Below.refl _ _).alloc (Nat.le_refl _) _)).cell rfl
            clear h1 h2
            go_wp2_with fail
            refine hK.out _ _ (by first | assumption | exact KS.out _ HKW.out | exact KS.out _ HKW.out.drew | exact KS.out _ HK1.out | exact KS.out _ HK2.out | exact KS.out _ HK5.out | exact KS.out _ HK6.out) (fun hHeld9 => ?_)
            clear hK K
            (try simp only [Act.put]); (try simp only [List.setIfInBounds_toArray]); (try simp only [List.set_cons_zero, List.set_cons_succ])
            refine wpAnyH_take (i := 9) (oi := _) (v := ?_) rfl (by kernel_rfl) (by kernel_rfl) (by kernel_rfl) (fun _ _ _ h => h) (Or.inl ⟨by rfl, ?_⟩) (by assumption) ?_
            rotate_left
            · (intro w0 hSw; (try dsimp only at hSw); (try simp only [List.getElem_toArray, List.getElem_cons_zero, List.getElem_cons_succ]); go_simp; try (with_reducible rfl))
            try simp only [Act.put, List.getElem_toArray, List.getElem_cons_zero, List.getElem_cons_succ, List.setIfInBounds_toArray, List.set_cons_zero, List.set_cons_succ]
            refine wpAnyH_ready (rs := [10]) (by kernel_rfl) (by simp) ?_
            refine AllReadyH.cons (o := _) rfl (fun K hK => ?_) AllReadyH.nil
            (try simp only [List.getElem_toArray, List.getElem_cons_zero, List.getElem_cons_succ])
            go_simp
            refine hK.out _ _ (by first | assumption | exact KS.out _ HKW.out | exact KS.out _ HKW.out.drew | exact KS.out _ HK1.out | exact KS.out _ HK2.out | exact KS.out _ HK5.out | exact KS.out _ HK6.out) (fun hHeld10 => ?_)
            clear hK K
            (try simp only [Act.put]); (try simp only [List.setIfInBounds_toArray]); (try simp only [List.set_cons_zero, List.set_cons_succ])
            refine wpAnyH_ready (rs := [11]) (by kernel_rfl) (by simp) ?_
            refine AllReadyH.cons (o := _) rfl (fun K hK => ?_) AllReadyH.nil
            refine step_append_lies _ rfl (.tmp 50) (.tmp 56) 29 rfl W1.heap.size 57 i2 _ 2 16 Tryd.underlying29 HIi2.out HZi2.out HSi2.out HYi2.out rfl (by decide) v2 i _ rfl HO2.out ⟨v.heap.size, 0, none⟩ 1 1 [.int .i64 (xs : Int), .bool xi] rfl rfl (World.news_of_block (heap_new _ _)) (by simp [Value.oneCell']) (by decide) hm1 hm2 HZ2.out _ rfl ?_
            intro g5 cap w5 hown hgrow hat hlt5
            have HG5 : Hid (v.grownBy w5 v2.ownBlock) := grown_trans (World.grownBy_alloc _ _ _) hgrow
            have HOW := hidden hown
            have HK5 : Hid (Kp [lb, cb] W1 w5) := HK1.out.grow HG5.out (fun k hk => (HO1.out.lt k hk).1)
            have hB5 : Blk w5 cb 32 _ := (HG5.out.block cb HC1.out.box.lt (fun e => by have := (HO1.out.lt cb e.symm).1; have := HC1.out.lt; omega)).trans HC1.out.box
            have c5 : w5.cell? ⟨cb, 6, none⟩ = some v2 := hB5.cell rfl
            have f5 := hB5.frozen 6
            clear hown hgrow hat hlt5 hB5
            have HK6 : Hid (Kp [lb, cb] W1 (w5.setCell ⟨cb, 6, none⟩ (.slice (some ⟨g5, 0, none⟩) (i + 1) cap))) := HK5.out.trans (Kp.set _ _ _ _ _ (by simp))
            refine hK.out _ _ (by first | assumption | exact KS.out _ HKW.out | exact KS.out _ HKW.out.drew | exact KS.out _ HK1.out | exact KS.out _ HK2.out | exact KS.out _ HK5.out | exact KS.out _ HK6.out) (fun hHeld11 => ?_)
            clear hK K
            (try simp only [Act.put]); (try simp only [List.setIfInBounds_toArray]); (try simp only [List.set_cons_zero, List.set_cons_succ])
            refine wpAnyH_take (i := 12) (oi := _) (v := ?_) rfl (by kernel_rfl) (by kernel_rfl) (by kernel_rfl) (fun _ _ _ h => h) (Or.inl ⟨by rfl, ?_⟩) (by assumption) ?_
            rotate_left
            · (intro w0 hSw; (try dsimp only at hSw); (try simp only [List.getElem_toArray, List.getElem_cons_zero, List.getElem_cons_succ]); go_simp; try (with_reducible rfl))
            try simp only [Act.put, List.getElem_toArray, List.getElem_cons_zero, List.getElem_cons_succ, List.setIfInBounds_toArray, List.set_cons_zero, List.set_cons_succ]
            refine wpAnyH_take (i := 13) (oi := _) (v := ?_) rfl (by kernel_rfl) (by kernel_rfl) (by kernel_rfl) (fun _ _ _ h => h) (Or.inl ⟨by rfl, ?_⟩) (by assumption) ?_
            rotate_left
            · (intro w0 hSw; (try dsimp only at hSw); (try simp only [List.getElem_toArray, List.getElem_cons_zero, List.getElem_cons_succ]); go_simp; try (with_reducible rfl))
            try simp only [Act.put, List.getElem_toArray, List.getElem_cons_zero, List.getElem_cons_succ, List.setIfInBounds_toArray, List.set_cons_zero, List.set_cons_succ]
            refine wpAnyH_ready (rs := [14]) (by kernel_rfl) (by simp) ?_
            refine AllReadyH.cons (o := _) rfl (fun K hK => ?_) AllReadyH.nil
            (try simp only [List.getElem_toArray, List.getElem_cons_zero, List.getElem_cons_succ])
            go_simp
            refine hK.out _ _ (by first | assumption | exact KS.out _ HKW.out | exact KS.out _ HKW.out.drew | exact KS.out _ HK1.out | exact KS.out _ HK2.out | exact KS.out _ HK5.out | exact KS.out _ HK6.out) (fun hHeld14 => ?_)
            clear hK K
            (try simp only [Act.put]); (try simp only [List.setIfInBounds_toArray]); (try simp only [List.set_cons_zero, List.set_cons_succ])
            refine wpAnyH_done (by kernel_rfl) ?_ _
            refine NoPanic.normal ?_
            have HC6 : Hid (CbAt W1.heap.size (w5.setCell ⟨cb, 6, none⟩ (.slice (some ⟨g5, 0, none⟩) (i + 1) cap)) cb sh v1 (.slice (some ⟨g5, 0, none⟩) (i + 1) cap) (.slice none 0 0) cols ((List.range (i + 1)).map regS) []) := by
              have := HC1.out.push2 (d := ⟨(xs : Int), xi⟩) (u := .slice (some ⟨g5, 0, none⟩) (i + 1) cap) (by rw [HLR.out]; exact HOW.out) HG5.out
              rw [HNR.out] at this
              exact this
            have HLB : Hid (Blk (w5.setCell ⟨cb, 6, none⟩ (.slice (some ⟨g5, 0, none⟩) (i + 1) cap)) lb 79 (ldQ a bs c (P + (i + 1) * (1 + k1)) (!(colsOk nc && ((List.range (i + 1)).map regS).all (RgD.ok s1))))) := by
              refine (But.set cb 6 w5 _).blk ((HG5.out.block lb HL1.out.lt (fun e => by have := (HO1.out.lt lb e.symm).1; omega)).trans ?_) (Ne.symm hcl)
              have := HL1.out
              rw [HNX.out.1, HNX.out.2] at this
              exact this
            generalize w5.setCell ⟨cb, 6, none⟩ (.slice (some ⟨g5, 0, none⟩) (i + 1) cap) = X at *
            clear HO1 HO2 HG5 HOW c5 f5 q1 q2 q3 HC1 HL1 HK5 HK1 HK2
            go_wp2
            go_roundw
            case measure => simp [intOf]; omega
            case rel => exact ⟨i + 1, _, by omega, by simp, HC6.out, HLB.out, HK6.out⟩
          refine AllReadyH.cons (o := _) rfl (fun K hK => ?_) AllReadyH.nil
          (try simp only [List.getElem_toArray, List.getElem_cons_zero, List.getElem_cons_succ])
          go_simp
          go_at_call 40
          refine HCO.out.mono ?_
          rintro e v ⟨rfl, h1, h2⟩
          have HK1 : Hid (Kp [lb, cb] W1 v) := HKW.out.drew.trans (h1.kp (by simp))
          have HC1 : Hid (CbAt W1.heap.size v cb sh v1 v2 (.slice none 0 0) cols ((List.range i).map regS) []) := HCB.out.but (But.of_drew h1) hlb1 hcl
          have HL1 := hidden h2
          have HO1 : Hid (v.ownsRow W1.heap.size 57 2 v2 i (((List.range i).map regS).flatMap RgD.cells)) := by have := HC1.out.o2; rwa [HLR.out] at this
          have HO2 := hidden (HO1.out.alloc (.cells #[.int .i64 (xs : Int), .bool xi] 57))
          have HZ2 : Hid (W1.heap.size ≤ (v.alloc (.cells #[.int .i64 (xs : Int), .bool xi] 57)).heap.size) := Nat.le_trans HK1.out.size (by simp)
          have q2 : v.cell? ⟨cb, 6, none⟩ = some v2 := HC1.out.box.cell rfl
          have HK2 : Hid (Kp [lb, cb] W1 (v.alloc (.cells #[.int .i64 (xs : Int), .bool xi] 57))) := HK1.out.trans (Below.kp ((Below.refl _ _).alloc (Nat.le_refl _) _))
          have q3 : (v.alloc (.cells #[.int .i64 (xs : Int), .bool xi] 57)).cell? ⟨cb, 6, none⟩ = some v2 := (HC1.out.box.below ((Below.refl _ _).alloc (Nat.le_refl _) _)).cell rfl
          clear h1 h2
          go_wp2_with fail
          refine hK.out _ _ (by first | assumption | exact KS.out _ HKW.out | exact KS.out _ HKW.out.drew | exact KS.out _ HK1.out | exact KS.out _ HK2.out | exact KS.out _ HK5.out | exact KS.out _ HK6.out) (fun hHeld9 => ?_)
          clear hK K
          (try simp only [Act.put]); (try simp only [List.setIfInBounds_toArray]); (try simp only [List.set_cons_zero, List.set_cons_succ])
          refine wpAnyH_take (i := 9) (oi := _) (v := ?_) rfl (by kernel_rfl) (by kernel_rfl) (by kernel_rfl) (fun _ _ _ h => h) (Or.inl ⟨by rfl, ?_⟩) (by assumption) ?_
          rotate_left
          · (intro w0 hSw; (try dsimp only at hSw); (try simp only [List.getElem_toArray, List.getElem_cons_zero, List.getElem_cons_succ]); go_simp; try (with_reducible rfl))
          try simp only [Act.put, List.getElem_toArray, List.getElem_cons_zero, List.getElem_cons_succ, List.setIfInBounds_toArray, List.set_cons_zero, List.set_cons_succ]
          refine wpAnyH_ready (rs := [4, 10]) (by kernel_rfl) (by simp) ?_
          refine AllReadyH.cons (o := _) rfl (fun K hK => ?_) ?_
          · (try simp only [List.getElem_toArray, List.getElem_cons_zero, List.getElem_cons_succ])
            go_simp
            refine hK.out _ _ (by first | assumption | exact KS.out _ HKW.out | exact KS.out _ HKW.out.drew | exact KS.out _ HK1.out | exact KS.out _ HK2.out | exact KS.out _ HK5.out | exact KS.out _ HK6.out) (fun hHeld4 => ?_)
            clear hK K
            (try simp only [Act.put]); (try simp only [List.setIfInBounds_toArray]); (try simp only [List.set_cons_zero, List.set_cons_succ])
            refine wpAnyH_ready (rs := [10]) (by kernel_rfl) (by simp) ?_
            refine AllReadyH.cons (o := _) rfl (fun K hK => ?_) AllReadyH.nil
            (try simp only [List.getElem_toArray, List.getElem_cons_zero, List.getElem_cons_succ])
            go_simp
            refine hK.out _ _ (by first | assumption | exact KS.out _ HKW.out | exact KS.out _ HKW.out.drew | exact KS.out _ HK1.out | exact KS.out _ HK2.out | exact KS.out _ HK5.out | exact KS.out _ HK6.out) (fun hHeld10 => ?_)
            clear hK K
            (try simp only [Act.put]); (try simp only [List.setIfInBounds_toArray]); (try simp only [List.set_cons_zero, List.set_cons_succ])
            refine wpAnyH_ready (rs := [11]) (by kernel_rfl) (by simp) ?_
            refine AllReadyH.cons (o := _) rfl (fun K hK => ?_) AllReadyH.nil
            refine step_append_lies _ rfl (.tmp 50) (.tmp 56) 29 rfl W1.heap.size 57 i2 _ 2 16 Tryd.underlying29 HIi2.out HZi2.out HSi2.out HYi2.out rfl (by decide) v2 i _ rfl HO2.out ⟨v.heap.size, 0, none⟩ 1 1 [.int .i64 (xs : Int), .bool xi] rfl rfl (World.news_of_block (heap_new _ _)) (by simp [Value.oneCell']) (by decide) hm1 hm2 HZ2.out _ rfl ?_
            intro g5 cap w5 hown hgrow hat hlt5
            have HG5 : Hid (v.grownBy w5 v2.ownBlock) := grown_trans (World.grownBy_alloc _ _ _) hgrow
            have HOW := hidden hown
            have HK5 : Hid (Kp [lb, cb] W1 w5) := HK1.out.grow HG5.out (fun k hk => (HO1.out.lt k hk).1)
            have hB5 : Blk w5 cb 32 _ := (HG5.out.block cb HC1.out.box.lt (fun e => by have := (HO1.out.lt cb e.symm).1; have := HC1.out.lt; omega)).trans HC1.out.box
            have c5 : w5.cell? ⟨cb, 6, none⟩ = some v2 := hB5.cell rfl
            have f5 := hB5.frozen 6
            clear hown hgrow hat hlt5 hB5
            have HK6 : Hid (Kp [lb, cb] W1 (w5.setCell ⟨cb, 6, none⟩ (.slice (some ⟨g5, 0, none⟩) (i + 1) cap))) := HK5.out.trans (Kp.set _ _ _ _ _ (by simp))
            refine hK.out _ _ (by first | assumption | exact KS.out _ HKW.out | exact KS.out _ HKW.out.drew | exact KS.out _ HK1.out | exact KS.out _ HK2.out | exact KS.out _ HK5.out | exact KS.out _ HK6.out) (fun hHeld11 => ?_)
            clear hK K
            (try simp only [Act.put]); (try simp only [List.setIfInBounds_toArray]); (try simp only [List.set_cons_zero, List.set_cons_succ])
            refine wpAnyH_take (i := 12) (oi := _) (v := ?_) rfl (by kernel_rfl) (by kernel_rfl) (by kernel_rfl) (fun _ _ _ h => h) (Or.inl ⟨by rfl, ?_⟩) (by assumption) ?_
            rotate_left
            · (intro w0 hSw; (try dsimp only at hSw); (try simp only [List.getElem_toArray, List.getElem_cons_zero, List.getElem_cons_succ]); go_simp; try (with_reducible rfl))
            try simp only [Act.put, List.getElem_toArray, List.getElem_cons_zero, List.getElem_cons_succ, List.setIfInBounds_toArray, List.set_cons_zero, List.set_cons_succ]
            refine wpAnyH_take (i := 13) (oi := _) (v := ?_) rfl (by kernel_rfl) (by kernel_rfl) (by kernel_rfl) (fun _ _ _ h => h) (Or.inl ⟨by rfl, ?_⟩) (by assumption) ?_
            rotate_left
            · (intro w0 hSw; (try dsimp only at hSw); (try simp only [List.getElem_toArray, List.getElem_cons_zero, List.getElem_cons_succ]); go_simp; try (with_reducible rfl))
            try simp only [Act.put, List.getElem_toArray, List.getElem_cons_zero, List.getElem_cons_succ, List.setIfInBounds_toArray, List.set_cons_zero, List.set_cons_succ]
            refine wpAnyH_ready (rs := [14]) (by kernel_rfl) (by simp) ?_
            refine AllReadyH.cons (o := _) rfl (fun K hK => ?_) AllReadyH.nil
            (try simp only [List.getElem_toArray, List.getElem_cons_zero, List.getElem_cons_succ])
            go_simp
            refine hK.out _ _ (by first | assumption | exact KS.out _ HKW.out | exact KS.out _ HKW.out.drew | exact KS.out _ HK1.out | exact KS.out _ HK2.out | exact KS.out _ HK5.out | exact KS.out _ HK6.out) (fun hHeld14 => ?_)
            clear hK K
            (try simp only [Act.put]); (try simp only [List.setIfInBounds_toArray]); (try simp only [List.set_cons_zero, List.set_cons_succ])
            refine wpAnyH_done (by kernel_rfl) ?_ _
            refine NoPanic.normal ?_
            have HC6 : Hid (CbAt W1.heap.size (w5.setCell ⟨cb, 6, none⟩ (.slice (some ⟨g5, 0, none⟩) (i + 1) cap)) cb sh v1 (.slice (some ⟨g5, 0, none⟩) (i + 1) cap) (.slice none 0 0) cols ((List.range (i + 1)).map regS) []) := by
              have := HC1.out.push2 (d := ⟨(xs : Int), xi⟩) (u := .slice (some ⟨g5, 0, none⟩) (i + 1) cap) (by rw [HLR.out]; exact HOW.out) HG5.out
              rw [HNR.out] at this
              exact this
            have HLB : Hid (Blk (w5.setCell ⟨cb, 6, none⟩ (.slice (some ⟨g5, 0, none⟩) (i + 1) cap)) lb 79 (ldQ a bs c (P + (i + 1) * (1 + k1)) (!(colsOk nc && ((List.range (i + 1)).map regS).all (RgD.ok s1))))) := by
              refine (But.set cb 6 w5 _).blk ((HG5.out.block lb HL1.out.lt (fun e => by have := (HO1.out.lt lb e.symm).1; omega)).trans ?_) (Ne.symm hcl)
              have := HL1.out
              rw [HNX.out.1, HNX.out.2] at this
              exact this
            generalize w5.setCell ⟨cb, 6, none⟩ (.slice (some ⟨g5, 0, none⟩) (i + 1) cap) = X at *
            clear HO1 HO2 HG5 HOW c5 f5 q1 q2 q3 HC1 HL1 HK5 HK1 HK2
            go_wp2
            go_roundw
            case measure => simp [intOf]; omega
            case rel => exact ⟨i + 1, _, by omega, by simp, HC6.out, HLB.out, HK6.out⟩
          refine AllReadyH.cons (o := _) rfl (fun K hK => ?_) AllReadyH.nil
          (try simp only [List.getElem_toArray, List.getElem_cons_zero, List.getElem_cons_succ])
          go_simp
          refine hK.out _ _ (by first | assumption | exact KS.out _ HKW.out | exact KS.out _ HKW.out.drew | exact KS.out _ HK1.out | exact KS.out _ HK2.out | exact KS.out _ HK5.out | exact KS.out _ HK6.out) (fun hHeld10 => ?_)
          clear hK K
          (try simp only [Act.put]); (try simp only [List.setIfInBounds_toArray]); (try simp only [List.set_cons_zero, List.set_cons_succ])
          refine wpAnyH_ready (rs := [4]) (by kernel_rfl) (by simp) ?_
          refine AllReadyH.cons (o := _) rfl (fun K hK => ?_) AllReadyH.nil
          (try simp only [List.getElem_toArray, List.getElem_cons_zero, List.getElem_cons_succ])
          go_simp
          refine hK.out _ _ (by first | assumption | exact KS.out _ HKW.out | exact KS.out _ HKW.out.drew | exact KS.out _ HK1.out | exact KS.out _ HK2.out | exact KS.out _ HK5.out | exact KS.out _ HK6.out) (fun hHeld4 => ?_)
          clear hK K
          (try simp only [Act.put]); (try simp only [List.setIfInBounds_toArray]); (try simp only [List.set_cons_zero, List.set_cons_succ])
          refine wpAnyH_ready (rs := [11]) (by kernel_rfl) (by simp) ?_
          refine AllReadyH.cons (o := _) rfl (fun K hK => ?_) AllReadyH.nil
          refine step_append_lies _ rfl (.tmp 50) (.tmp 56) 29 rfl W1.heap.size 57 i2 _ 2 16 Tryd.underlying29 HIi2.out HZi2.out HSi2.out HYi2.out rfl (by decide) v2 i _ rfl HO2.out ⟨v.heap.size, 0, none⟩ 1 1 [.int .i64 (xs : Int), .bool xi] rfl rfl (World.news_of_block (heap_new _ _)) (by simp [Value.oneCell']) (by decide) hm1 hm2 HZ2.out _ rfl ?_
          intro g5 cap w5 hown hgrow hat hlt5
          have HG5 : Hid (v.grownBy w5 v2.ownBlock) := grown_trans (World.grownBy_alloc _ _ _) hgrow
          have HOW := hidden hown
          have HK5 : Hid (Kp [lb, cb] W1 w5) := HK1.out.grow HG5.out (fun k hk => (HO1.out.lt k hk).1)
          have hB5 : Blk w5 cb 32 _ := (HG5.out.block cb HC1.out.box.lt (fun e => by have := (HO1.out.lt cb e.symm).1; have := HC1.out.lt; omega)).trans HC1.out.box
          have c5 : w5.cell? ⟨cb, 6, none⟩ = some v2 := hB5.cell rfl
          have f5 := hB5.frozen 6
          clear hown hgrow hat hlt5 hB5
          have HK6 : Hid (Kp [lb, cb] W1 (w5.setCell ⟨cb, 6, none⟩ (.slice (some ⟨g5, 0, none⟩) (i + 1) cap))) := HK5.out.trans (Kp.set _ _ _ _ _ (by simp))
          refine hK.out _ _ (by first | assumption | exact KS.out _ HKW.out | exact KS.out _ HKW.out.drew | exact KS.out _ HK1.out | exact KS.out _ HK2.out | exact KS.out _ HK5.out | exact KS.out _ HK6.out) (fun hHeld11 => ?_)
          clear hK K
          (try simp only [Act.put]); (try simp only [List.setIfInBounds_toArray]); (try simp only [List.set_cons_zero, List.set_cons_succ])
          refine wpAnyH_take (i := 12) (oi := _) (v := ?_) rfl (by kernel_rfl) (by kernel_rfl) (by kernel_rfl) (fun _ _ _ h => h) (Or.inl ⟨by rfl, ?_⟩) (by assumption) ?_
          rotate_left
          · (intro w0 hSw; (try dsimp only at hSw); (try simp only [List.getElem_toArray, List.getElem_cons_zero, List.getElem_cons_succ]); go_simp; try (with_reducible rfl))
          try simp only [Act.put, List.getElem_toArray, List.getElem_cons_zero, List.getElem_cons_succ, List.setIfInBounds_toArray, List.set_cons_zero, List.set_cons_succ]
          refine wpAnyH_take (i := 13) (oi := _) (v := ?_) rfl (by kernel_rfl) (by kernel_rfl) (by kernel_rfl) (fun _ _ _ h => h) (Or.inl ⟨by rfl, ?_⟩) (by assumption) ?_
          rotate_left
          · (intro w0 hSw; (try dsimp only at hSw); (try simp only [List.getElem_toArray, List.getElem_cons_zero, List.getElem_cons_succ]); go_simp; try (with_reducible rfl))
          try simp only [Act.put, List.getElem_toArray, List.getElem_cons_zero, List.getElem_cons_succ, List.setIfInBounds_toArray, List.set_cons_zero, List.set_cons_succ]
          refine wpAnyH_ready (rs := [14]) (by kernel_rfl) (by simp) ?_
          refine AllReadyH.cons (o := _) rfl (fun K hK => ?_) AllReadyH.nil
          (try simp only [List.getElem_toArray, List.getElem_cons_zero, List.getElem_cons_succ])
          go_simp
          refine hK.out _ _ (by first | assumption | exact KS.out _ HKW.out | exact KS.out _ HKW.out.drew | exact KS.out _ HK1.out | exact KS.out _ HK2.out | exact KS.out _ HK5.out | exact KS.out _ HK6.out) (fun hHeld14 => ?_)
          clear hK K
          (try simp only [Act.put]); (try simp only [List.setIfInBounds_toArray]); (try simp only [List.set_cons_zero, List.set_cons_succ])
          refine wpAnyH_done (by kernel_rfl) ?_ _
          refine NoPanic.normal ?_
          have HC6 : Hid (CbAt W1.heap.size (w5.setCell ⟨cb, 6, none⟩ (.slice (some ⟨g5, 0, none⟩) (i + 1) cap)) cb sh v1 (.slice (some ⟨g5, 0, none⟩) (i + 1) cap) (.slice none 0 0) cols ((List.range (i + 1)).map regS) []) := by
            have := HC1.out.push2 (d := ⟨(xs : Int), xi⟩) (u := .slice (some ⟨g5, 0, none⟩) (i + 1) cap) (by rw [HLR.out]; exact HOW.out) HG5.out
            rw [HNR.out] at this
            exact this
          have HLB : Hid (Blk (w5.setCell ⟨cb, 6, none⟩ (.slice (some ⟨g5, 0, none⟩) (i + 1) cap)) lb 79 (ldQ a bs c (P + (i + 1) * (1 + k1)) (!(colsOk nc && ((List.range (i + 1)).map regS).all (RgD.ok s1))))) := by
            refine (But.set cb 6 w5 _).blk ((HG5.out.block lb HL1.out.lt (fun e => by have := (HO1.out.lt lb e.symm).1; omega)).trans ?_) (Ne.symm hcl)
            have := HL1.out
            rw [HNX.out.1, HNX.out.2] at this
            exact this
          generalize w5.setCell ⟨cb, 6, none⟩ (.slice (some ⟨g5, 0, none⟩) (i + 1) cap) = X at *
          clear HO1 HO2 HG5 HOW c5 f5 q1 q2 q3 HC1 HL1 HK5 HK1 HK2
          go_wp2
          go_roundw
          case measure => simp [intOf]; omega
          case rel => exact ⟨i + 1, _, by omega, by simp, HC6.out, HLB.out, HK6.out⟩
        · have hge2 : ¬ ((i : Int) < (nr : Int)) := by omega
          obtain rfl : nr = i := by omega
          have HPE : Hid (Q + 0 * k1 = P + nr * (1 + k1)) := by show _ = _; rw [HPQ.out.2]; simp
          have HLK0 : Hid (Blk wr lb 79 (ldQ a bs c (Q + 0 * k1) (!(colsOk nc && ((List.range nr).map regS).all (RgD.ok s1) && ((List.range 0).map outS).all (inR s1))))) := by show Blk _ _ _ _; rw [HPE.out]; simpa using HLK.out
          have y2 : wr.cell? ⟨sb, 1, none⟩ = some (.int .i64 (no : Int)) := (KB.out _ HKW.out).cell rfl
          have HKW0 := HKW
          have HCB0 := HCB
          clear HLK HPE HKW HCB
          go_wp2_with fail
          clear y2
          go_loopw [63] (fun i' w' => ∃ (i : Nat) (v3 : Value), i ≤ no ∧ i' = .int .i64 i ∧ Hid (CbAt W1.heap.size w' cb sh v1 v2 v3 cols ((List.range nr).map regS) ((List.range i).map outS)) ∧ Hid (Blk w' lb 79 (ldQ a bs c (Q + i * k1) (!(colsOk nc && ((List.range nr).map regS).all (RgD.ok s1) && ((List.range i).map outS).all (inR s1))))) ∧ Hid (Kp [lb, cb] W1 w')) (fun i' _ => no - (intOf i').toNat)
          case atStart => exact ⟨0, _, Nat.zero_le _, rfl, HCB0.out, HLK0.out, HKW0.out⟩
          case round =>
            clear HCB0 HLK0 HKW0
            obtain ⟨i, v3, hi, rfl, HCB, HLK, HKW⟩ := hrel
            by_cases hlt : i < no
            · have hltI : (i : Int) < (no : Int) := by omega
              have ei : IntKind.i64.wrap ((i : Int) + 1) = (i : Int) + 1 := wrapI _ (by omega) (by omega)
              obtain ⟨xs, HXS⟩ : ∃ x, Hid (numN bs (Q + i * k1) k1 = x) := ⟨_, rfl⟩
              have HNR : Hid ((List.range i).map outS ++ [(xs : Int)] = (List.range (i + 1)).map outS) := by
                show _ = _
                rw [List.range_succ, List.map_append, ← HOS.out]; simp [outF, HXS.out]
              have HLR : Hid (((List.range i).map outS).length = i) := by show _ = _; simp
              have HNX : Hid (Q + i * k1 + k1 = Q + (i + 1) * k1 ∧ (!(colsOk nc && ((List.range nr).map regS).all (RgD.ok s1) && ((List.range i).map outS).all (inR s1)) || decide (s1 ≤ xs)) = !(colsOk nc && ((List.range nr).map regS).all (RgD.ok s1) && ((List.range (i + 1)).map outS).all (inR s1))) := by
                refine ⟨by rw [Nat.add_mul i 1 k1, Nat.one_mul]; omega, ?_⟩
                rw [← HNR.out, List.all_append, bad_more, Bool.and_assoc]
                simp
              have hm1 : i + 1 ≤ maxLen := by simp only [maxLen]; omega
              have hm2 : (i + 1) * 8 ≤ 140737488355328 := by omega
              have q1 : wr.cell? ⟨cb, 7, none⟩ = some v3 := HCB.out.box.cell rfl
              have HCO := hidden (HSL.out wr.drew _ _ (HKB.out _ HKW.out.drew) HLK.out)
              rw [HXS.out] at HCO
              go_upto_region 14 with fail
              refine wp_region_noPanic ?_
              refine wp_region_held_drew (S := (fun w' => w'.cell? ⟨sb, 3, none⟩ = some (.int .i64 (nw : Int)))) (by kernel_rfl) (by first | assumption | exact KS.out _ HKW.out | exact KS.out _ HKW.out.drew | exact KS.out _ HK1.out | exact KS.out _ HK2.out | exact KS.out _ HK5.out | exact KS.out _ HK6.out) (fun hHeld => ?_)
              refine wpAnyH_take (i := 0) (oi := _) (v := ?_) rfl (by kernel_rfl) (by kernel_rfl) (by kernel_rfl) (fun _ _ _ h => h) (Or.inl ⟨by rfl, ?_⟩) (by assumption) ?_
              rotate_left
              · (intro w0 hSw; (try dsimp only at hSw); (try simp only [List.getElem_toArray, List.getElem_cons_zero]); go_simp; try (with_reducible rfl))
              try simp only [Act.put, List.getElem_toArray, List.getElem_cons_zero, List.setIfInBounds_toArray, List.set_cons_zero, List.set_cons_succ]
              refine wpAnyH_take (i := 1) (oi := _) (v := ?_) rfl (by kernel_rfl) (by kernel_rfl) (by kernel_rfl) (fun _ _ _ h => h) (Or.inl ⟨by rfl, ?_⟩) (by assumption) ?_
              rotate_left
              · (intro w0 hSw; (try dsimp only at hSw); (try simp only [List.getElem_toArray, List.getElem_cons_zero, List.getElem_cons_succ]); go_simp; try (with_reducible rfl))
              try simp only [Act.put, List.getElem_toArray, List.getElem_cons_zero, List.getElem_cons_succ, List.setIfInBounds_toArray, List.set_cons_zero, List.set_cons_succ]
              refine wpAnyH_take (i := 2) (oi := _) (v := ?_) rfl (by kernel_rfl) (by kernel_rfl) (by kernel_rfl) (fun _ _ _ h => h) (Or.inl ⟨by rfl, ?_⟩) (by assumption) ?_
              rotate_left
              · (intro w0 hSw; (try dsimp only at hSw); (try simp only [List.getElem_toArray, List.getElem_cons_zero, List.getElem_cons_succ]); go_simp; try (with_reducible rfl))
              try simp only [Act.put, List.getElem_toArray, List.getElem_cons_zero, List.getElem_cons_succ, List.setIfInBounds_toArray, List.set_cons_zero, List.set_cons_succ]
              refine wpAnyH_take (i := 3) (oi := _) (v := ?_) rfl (by kernel_rfl) (by kernel_rfl) (by kernel_rfl) (fun _ _ _ h => h) (Or.inl ⟨by rfl, ?_⟩) (by assumption) ?_
              rotate_left
              · (intro w0 hSw; (try dsimp only at hSw); (try simp only [List.getElem_toArray, List.getElem_cons_zero, List.getElem_cons_succ]); go_simp; try (with_reducible rfl))
              try simp only [Act.put, List.getElem_toArray, List.getElem_cons_zero, List.getElem_cons_succ, List.setIfInBounds_toArray, List.set_cons_zero, List.set_cons_succ]
              refine wpAnyH_take (i := 5) (oi := _) (v := ?_) rfl (by kernel_rfl) (by kernel_rfl) (by kernel_rfl) (fun _ _ _ h => h) (Or.inl ⟨by rfl, ?_⟩) (by assumption) ?_
              rotate_left
              · (intro w0 hSw; (try dsimp only at hSw); (try simp only [List.getElem_toArray, List.getElem_cons_zero, List.getElem_cons_succ]); go_simp; try (with_reducible rfl))
              try simp only [Act.put, List.getElem_toArray, List.getElem_cons_zero, List.getElem_cons_succ, List.setIfInBounds_toArray, List.set_cons_zero, List.set_cons_succ]
              refine wpAnyH_take (i := 6) (oi := _) (v := ?_) rfl (by kernel_rfl) (by kernel_rfl) (by kernel_rfl) (fun _ _ _ h => h) (Or.inl ⟨by rfl, ?_⟩) (by assumption) ?_
              rotate_left
              · (intro w0 hSw; (try dsimp only at hSw); (try simp only [List.getElem_toArray, List.getElem_cons_zero, List.getElem_cons_succ]); go_simp; try (with_reducible rfl))
              try simp only [Act.put, List.getElem_toArray, List.getElem_cons_zero, List.getElem_cons_succ, List.setIfInBounds_toArray, List.set_cons_zero, List.set_cons_succ]
              refine wpAnyH_ready (rs := [4, 7]) (by kernel_rfl) (by simp) ?_
              refine AllReadyH.cons (o := _) rfl (fun K hK => ?_) ?_
              · (try simp only [List.getElem_toArray, List.getElem_cons_zero, List.getElem_cons_succ])
                go_simp
                refine hK.out _ _ (by first | assumption | exact KS.out _ HKW.out | exact KS.out _ HKW.out.drew | exact KS.out _ HK1.out | exact KS.out _ HK2.out | exact KS.out _ HK5.out | exact KS.out _ HK6.out) (fun hHeld4 => ?_)
                clear hK K
                (try simp only [Act.put]); (try simp only [List.setIfInBounds_toArray]); (try simp only [List.set_cons_zero, List.set_cons_succ])
                refine wpAnyH_ready (rs := [7]) (by kernel_rfl) (by simp) ?_
                refine AllReadyH.cons (o := _) rfl (fun K hK => ?_) AllReadyH.nil
                (try simp only [List.getElem_toArray, List.getElem_cons_zero, List.getElem_cons_succ])
                go_simp
                go_at_call 40
                refine HCO.out.mono ?_
                rintro e v ⟨rfl, h1, h2⟩
                have HK1 : Hid (Kp [lb, cb] W1 v) := HKW.out.drew.trans (h1.kp (by simp))
                have HC1 : Hid (CbAt W1.heap.size v cb sh v1 v2 v3 cols ((List.range nr).map regS) ((List.range i).map outS)) := HCB.out.but (But.of_drew h1) hlb1 hcl
                have HL1 := hidden h2
                have HO1 : Hid (v.ownsRow W1.heap.size 3 1 v3 i (((List.range i).map outS).map intV)) := by have := HC1.out.o3; rwa [HLR.out] at this
                have HO2 := hidden (HO1.out.alloc (.cells #[.int .i64 (xs : Int)] 3))
                have HZ2 : Hid (W1.heap.size ≤ (v.alloc (.cells #[.int .i64 (xs : Int)] 3)).heap.size) := Nat.le_trans HK1.out.size (by simp)
                have q2 : v.cell? ⟨cb, 7, none⟩ = some v3 := HC1.out.box.cell rfl
                have HK2 : Hid (Kp [lb, cb] W1 (v.alloc (.cells #[.int .i64 (xs : Int)] 3))) := HK1.out.trans (Below.kp ((Below.refl _ _).alloc (Nat.le_refl _) _))
                have q3 : (v.alloc (.cells #[.int .i64 (xs : Int)] 3)).cell? ⟨cb, 7, none⟩ = some v3 := (HC1.out.box.below ((Below.refl _ _).alloc (Nat.le_refl _) _)).cell rfl
                clear h1 h2
                go_wp2_with fail
                refine hK.out _ _ (by first | assumption | exact KS.out _ HKW.out | exact KS.out _ HKW.out.drew | exact KS.out _ HK1.out | exact KS.out _ HK2.out | exact KS.out _ HK5.out | exact KS.out _ HK6.out) (fun hHeld9 => ?_)
                clear hK K
                (try simp only [Act.put]); (try simp only [List.setIfInBounds_toArray]); (try simp only [List.set_cons_zero, List.set_cons_succ])
                refine wpAnyH_ready (rs := [8]) (by kernel_rfl) (by simp) ?_
                refine AllReadyH.cons (o := _) rfl (fun K hK => ?_) AllReadyH.nil
                (try simp only [List.getElem_toArray, List.getElem_cons_zero, List.getElem_cons_succ])
                go_simp
                refine hK.out _ _ (by first | assumption | exact KS.out _ HKW.out | exact KS.out _ HKW.out.drew | exact KS.out _ HK1.out | exact KS.out _ HK2.out | exact KS.out _ HK5.out | exact KS.out _ HK6.out) (fun hHeld10 => ?_)
                clear hK K
                (try simp only [Act.put]); (try simp only [List.setIfInBounds_toArray]); (try simp only [List.set_cons_zero, List.set_cons_succ])
                refine wpAnyH_ready (rs := [9]) (by kernel_rfl) (by simp) ?_
                refine AllReadyH.cons (o := _) rfl (fun K hK => ?_) AllReadyH.nil
                refine step_append_lies _ rfl (.tmp 69) (.tmp 73) 30 rfl W1.heap.size 3 i3 _ 1 8 Tryd.underlying30 HIi3.out HZi3.out HSi3.out HYi3.out rfl (by decide) v3 i _ rfl HO2.out ⟨v.heap.size, 0, none⟩ 1 1 [.int .i64 (xs : Int)] rfl rfl (World.news_of_block (heap_new _ _)) (by simp [Value.oneCell']) (by decide) hm1 hm2 HZ2.out _ rfl ?_
                intro g5 cap w5 hown hgrow hat hlt5
                have HG5 : Hid (v.grownBy w5 v3.ownBlock) := grown_trans (World.grownBy_alloc _ _ _) hgrow
                have HOW := hidden hown
                have HK5 : Hid (Kp [lb, cb] W1 w5) := HK1.out.grow HG5.out (fun k hk => (HO1.out.lt k hk).1)
                have hB5 : Blk w5 cb 32 _ := (HG5.out.block cb HC1.out.box.lt (fun e => by have := (HO1.out.lt cb e.symm).1; have := HC1.out.lt; omega)).trans HC1.out.box
                have c5 : w5.cell? ⟨cb, 7, none⟩ = some v3 := hB5.cell rfl
                have f5 := hB5.frozen 7
                clear hown hgrow hat hlt5 hB5
                have HK6 : Hid (Kp [lb, cb] W1 (w5.setCell ⟨cb, 7, none⟩ (.slice (some ⟨g5, 0, none⟩) (i + 1) cap))) := HK5.out.trans (Kp.set _ _ _ _ _ (by simp))
                refine hK.out _ _ (by first | assumption | exact KS.out _ HKW.out | exact KS.out _ HKW.out.drew | exact KS.out _ HK1.out | exact KS.out _ HK2.out | exact KS.out _ HK5.out | exact KS.out _ HK6.out) (fun hHeld11 => ?_)
                clear hK K
                (try simp only [Act.put]); (try simp only [List.setIfInBounds_toArray]); (try simp only [List.set_cons_zero, List.set_cons_succ])
                refine wpAnyH_take (i := 10) (oi := _) (v := ?_) rfl (by kernel_rfl) (by kernel_rfl) (by kernel_rfl) (fun _ _ _ h => h) (Or.inl ⟨by rfl, ?_⟩) (by assumption) ?_
                rotate_left
                · (intro w0 hSw; (try dsimp only at hSw); (try simp only [List.getElem_toArray, List.getElem_cons_zero, List.getElem_cons_succ]); go_simp; try (with_reducible rfl))
                try simp only [Act.put, List.getElem_toArray, List.getElem_cons_zero, List.getElem_cons_succ, List.setIfInBounds_toArray, List.set_cons_zero, List.set_cons_succ]
                refine wpAnyH_take (i := 11) (oi := _) (v := ?_) rfl (by kernel_rfl) (by kernel_rfl) (by kernel_rfl) (fun _ _ _ h => h) (Or.inl ⟨by rfl, ?_⟩) (by assumption) ?_
                rotate_left
                · (intro w0 hSw; (try dsimp only at hSw); (try simp only [List.getElem_toArray, List.getElem_cons_zero, List.getElem_cons_succ]); go_simp; try (with_reducible rfl))
                try simp only [Act.put, List.getElem_toArray, List.getElem_cons_zero, List.getElem_cons_succ, List.setIfInBounds_toArray, List.set_cons_zero, List.set_cons_succ]
                refine wpAnyH_ready (rs := [12]) (by kernel_rfl) (by simp) ?_
                refine AllReadyH.cons (o := _) rfl (fun K hK => ?_) AllReadyH.nil
                (try simp only [List.getElem_toArray, List.getElem_cons_zero, List.getElem_cons_succ])
                go_simp
                refine hK.out _ _ (by first | assumption | exact KS.out _ HKW.out | exact KS.out _ HKW.out.drew | exact KS.out _ HK1.out | exact KS.out _ HK2.out | exact KS.out _ HK5.out | exact KS.out _ HK6.out) (fun hHeld14 => ?_)
                clear hK K
                (try simp only [Act.put]); (try simp only [List.setIfInBounds_toArray]); (try simp only [List.set_cons_zero, List.set_cons_succ])
                refine wpAnyH_done (by kernel_rfl) ?_ _
                refine NoPanic.normal ?_
                have HC6 : Hid (CbAt W1.heap.size (w5.setCell ⟨cb, 7, none⟩ (.slice (some ⟨g5, 0, none⟩) (i + 1) cap)) cb sh v1 v2 (.slice (some ⟨g5, 0, none⟩) (i + 1) cap) cols ((List.range nr).map regS) ((List.range (i + 1)).map outS)) := by
                  have := HC1.out.push3 (x := (xs : Int)) (u := .slice (some ⟨g5, 0, none⟩) (i + 1) cap) (by rw [HLR.out]; exact HOW.out) HG5.out
                  rw [HNR.out] at this
                  exact this
                have HLB : Hid (Blk (w5.setCell ⟨cb, 7, none⟩ (.slice (some ⟨g5, 0, none⟩) (i + 1) cap)) lb 79 (ldQ a bs c (Q + (i + 1) * k1) (!(colsOk nc && ((List.range nr).map regS).all (RgD.ok s1) && ((List.range (i + 1)).map outS).all (inR s1))))) := by
                  refine (But.set cb 7 w5 _).blk ((HG5.out.block lb HL1.out.lt (fun e => by have := (HO1.out.lt lb e.symm).1; omega)).trans ?_) (Ne.symm hcl)
                  have := HL1.out
                  rw [HNX.out.1, HNX.out.2] at this
                  exact this
                generalize w5.setCell ⟨cb, 7, none⟩ (.slice (some ⟨g5, 0, none⟩) (i + 1) cap) = X at *
                clear HO1 HO2 HG5 HOW c5 f5 q1 q2 q3 HC1 HL1 HK5 HK1 HK2
                go_wp2
                go_roundw
                case measure => simp [intOf]; omega
                case rel => exact ⟨i + 1, _, by omega, by simp, HC6.out, HLB.out, HK6.out⟩
              refine AllReadyH.cons (o := _) rfl (fun K hK => ?_) AllReadyH.nil
              (try simp only [List.getElem_toArray, List.getElem_cons_zero, List.getElem_cons_succ])
              go_simp
              go_at_call 40
              refine HCO.out.mono ?_
              rintro e v ⟨rfl, h1, h2⟩
              have HK1 : Hid (Kp [lb, cb] W1 v) := HKW.out.drew.trans (h1.kp (by simp))
              have HC1 : Hid (CbAt W1.heap.size v cb sh v1 v2 v3 cols ((List.range nr).map regS) ((List.range i).map outS)) := HCB.out.but (But.of_drew h1) hlb1 hcl
              have HL1 := hidden h2
              have HO1 : Hid (v.ownsRow W1.heap.size 3 1 v3 i (((List.range i).map outS).map intV)) := by have := HC1.out.o3; rwa [HLR.out] at this
              have HO2 := hidden (HO1.out.alloc (.cells #[.int .i64 (xs : Int)] 3))
              have HZ2 : Hid (W1.heap.size ≤ (v.alloc (.cells #[.int .i64 (xs : Int)] 3)).heap.size) := Nat.le_trans HK1.out.size (by simp)
              have q2 : v.cell? ⟨cb, 7, none⟩ = some v3 := HC1.out.box.cell rfl
              have HK2 : Hid (Kp [lb, cb] W1 (v.alloc (.cells #[.int .i64 (xs : Int)] 3))) := HK1.out.trans (Below.kp ((Below.refl _ _).alloc (Nat.le_refl _) _))
              have q3 : (v.alloc (.cells #[.int .i64 (xs : Int)] 3)).cell? ⟨cb, 7, none⟩ = some v3 := (HC1.out.box.below ((Below.refl _ _).alloc (Nat.le_refl _) _)).cell rfl
              clear h1 h2
              go_wp2_with fail
              refine hK.out _ _ (by first | assumption | exact KS.out _ HKW.out | exact KS.out _ HKW.out.drew | exact KS.out _ HK1.out | exact KS.out _ HK2.out | exact KS.out _ HK5.out | exact KS.out _ HK6.out) (fun hHeld9 => ?_)
              clear hK K
              (try simp only [Act.put]); (try simp only [List.setIfInBounds_toArray]); (try simp only [List.set_cons_zero, List.set_cons_succ])
              refine wpAnyH_ready (rs := [4, 8]) (by kernel_rfl) (by simp) ?_
              refine AllReadyH.cons (o := _) rfl (fun K hK => ?_) ?_
              · (try simp only [List.getElem_toArray, List.getElem_cons_zero, List.getElem_cons_succ])
                go_simp
                refine hK.out _ _ (by first | assumption | exact KS.out _ HKW.out | exact KS.out _ HKW.out.drew | exact KS.out _ HK1.out | exact KS.out _ HK2.out | exact KS.out _ HK5.out | exact KS.out _ HK6.out) (fun hHeld4 => ?_)
                clear hK K
                (try simp only [Act.put]); (try simp only [List.setIfInBounds_toArray]); (try simp only [List.set_cons_zero, List.set_cons_succ])
                refine wpAnyH_ready (rs := [8]) (by kernel_rfl) (by simp) ?_
                refine AllReadyH.cons (o := _) rfl (fun K hK => ?_) AllReadyH.nil
                (try simp only [List.getElem_toArray, List.getElem_cons_zero, List.getElem_cons_succ])
                go_simp
                refine hK.out _ _ (by first | assumption | exact KS.out _ HKW.out | exact KS.out _ HKW.out.drew | exact KS.out _ HK1.out | exact KS.out _ HK2.out | exact KS.out _ HK5.out | exact KS.out _ HK6.out) (fun hHeld10 => ?_)
                clear hK K
                (try simp only [Act.put]); (try simp only [List.setIfInBounds_toArray]); (try simp only [List.set_cons_zero, List.set_cons_succ])
                refine wpAnyH_ready (rs := [9]) (by kernel_rfl) (by simp) ?_
                refine AllReadyH.cons (o := _) rfl (fun K hK => ?_) AllReadyH.nil
                refine step_append_lies _ rfl (.tmp 69) (.tmp 73) 30 rfl W1.heap.size 3 i3 _ 1 8 Tryd.underlying30 HIi3.out HZi3.out HSi3.out HYi3.out rfl (by decide) v3 i _ rfl HO2.out ⟨v.heap.size, 0, none⟩ 1 1 [.int .i64 (xs : Int)] rfl rfl (World.news_of_block (heap_new _ _)) (by simp [Value.oneCell']) (by decide) hm1 hm2 HZ2.out _ rfl ?_
                intro g5 cap w5 hown hgrow hat hlt5
                have HG5 : Hid (v.grownBy w5 v3.ownBlock) := grown_trans (World.grownBy_alloc _ _ _) hgrow
                have HOW := hidden hown
                have HK5 : Hid (Kp [lb, cb] W1 w5) := HK1.out.grow HG5.out (fun k hk => (HO1.out.lt k hk).1)
                have hB5 : Blk w5 cb 32 _ := (HG5.out.block cb HC1.out.box.lt (fun e => by have := (HO1.out.lt cb e.symm).1; have := HC1.out.lt; omega)).trans HC1.out.box
                have c5 : w5.cell? ⟨cb, 7, none⟩ = some v3 := hB5.cell rfl
                have f5 := hB5.frozen 7
                clear hown hgrow hat hlt5 hB5
                have HK6 : Hid (Kp [lb, cb] W1 (w5.setCell ⟨cb, 7, none⟩ (.slice (some ⟨g5, 0, none⟩) (i + 1) cap))) := HK5.out.trans (Kp.set _ _ _ _ _ (by simp))
                refine hK.out _ _ (by first | assumption | exact KS.out _ HKW.out | exact KS.out _ HKW.out.drew | exact KS.out _ HK1.out | exact KS.out _ HK2.out | exact KS.out _ HK5.out | exact KS.out _ HK6.out) (fun hHeld11 => ?_)
                clear hK K
                (try simp only [Act.put]); (try simp only [List.setIfInBounds_toArray]); (try simp only [List.set_cons_zero, List.set_cons_succ])
                refine wpAnyH_take (i := 10) (oi := _) (v := ?_) rfl (by kernel_rfl) (by kernel_rfl) (by kernel_rfl) (fun _ _ _ h => h) (Or.inl ⟨by rfl, ?_⟩) (by assumption) ?_
                rotate_left
                · (intro w0 hSw; (try dsimp only at hSw); (try simp only [List.getElem_toArray, List.getElem_cons_zero, List.getElem_cons_succ]); go_simp; try (with_reducible rfl))
                try simp only [Act.put, List.getElem_toArray, List.getElem_cons_zero, List.getElem_cons_succ, List.setIfInBounds_toArray, List.set_cons_zero, List.set_cons_succ]
                refine wpAnyH_take (i := 11) (oi := _) (v := ?_) rfl (by kernel_rfl) (by kernel_rfl) (by kernel_rfl) (fun _ _ _ h => h) (Or.inl ⟨by rfl, ?_⟩) (by assumption) ?_
                rotate_left
                · (intro w0 hSw; (try dsimp only at hSw); (try simp only [List.getElem_toArray, List.getElem_cons_zero, List.getElem_cons_succ]); go_simp; try (with_reducible rfl))
                try simp only [Act.put, List.getElem_toArray, List.getElem_cons_zero, List.getElem_cons_succ, List.setIfInBounds_toArray, List.set_cons_zero, List.set_cons_succ]
                refine wpAnyH_ready (rs := [12]) (by kernel_rfl) (by simp) ?_
                refine AllReadyH.cons (o := _) rfl (fun K hK => ?_) AllReadyH.nil
                (try simp only [List.getElem_toArray, List.getElem_cons_zero, List.getElem_cons_succ])
                go_simp
                refine hK.out _ _ (by first | assumption | exact KS.out _ HKW.out | exact KS.out _ HKW.out.drew | exact KS.out _ HK1.out | exact KS.out _ HK2.out | exact KS.out _ HK5.out | exact KS.out _ HK6.out) (fun hHeld14 => ?_)
                clear hK K
                (try simp only [Act.put]); (try simp only [List.setIfInBounds_toArray]); (try simp only [List.set_cons_zero, List.set_cons_succ])
                refine wpAnyH_done (by kernel_rfl) ?_ _
                refine NoPanic.normal ?_
                have HC6 : Hid (CbAt W1.heap.size (w5.setCell ⟨cb, 7, none⟩ (.slice (some ⟨g5, 0, none⟩) (i + 1) cap)) cb sh v1 v2 (.slice (some ⟨g5, 0, none⟩) (i + 1) cap) cols ((List.range nr).map regS) ((List.range (i + 1)).map outS)) := by
                  have := HC1.out.push3 (x := (xs : Int)) (u := .slice (some ⟨g5, 0, none⟩) (i + 1) cap) (by rw [HLR.out]; exact HOW.out) HG5.out
                  rw [HNR.out] at this
                  exact this
                have HLB : Hid (Blk (w5.setCell ⟨cb, 7, none⟩ (.slice (some ⟨g5, 0, none⟩) (i + 1) cap)) lb 79 (ldQ a bs c (Q + (i + 1) * k1) (!(colsOk nc && ((List.range nr).map regS).all (RgD.ok s1) && ((List.range (i + 1)).map outS).all (inR s1))))) := by
                  refine (But.set cb 7 w5 _).blk ((HG5.out.block lb HL1.out.lt (fun e => by have := (HO1.out.lt lb e.symm).1; omega)).trans ?_) (Ne.symm hcl)
                  have := HL1.out
                  rw [HNX.out.1, HNX.out.2] at this
                  exact this
                generalize w5.setCell ⟨cb, 7, none⟩ (.slice (some ⟨g5, 0, none⟩) (i + 1) cap) = X at *
                clear HO1 HO2 HG5 HOW c5 f5 q1 q2 q3 HC1 HL1 HK5 HK1 HK2
                go_wp2
                go_roundw
                case measure => simp [intOf]; omega
                case rel => exact ⟨i + 1, _, by omega, by simp, HC6.out, HLB.out, HK6.out⟩
              refine AllReadyH.cons (o := _) rfl (fun K hK => ?_) AllReadyH.nil
              (try simp only [List.getElem_toArray, List.getElem_cons_zero, List.getElem_cons_succ])
              go_simp
              refine hK.out _ _ (by first | assumption | exact KS.out _ HKW.out | exact KS.out _ HKW.out.drew | exact KS.out _ HK1.out | exact KS.out _ HK2.out | exact KS.out _ HK5.out | exact KS.out _ HK6.out) (fun hHeld10 => ?_)
              clear hK K
              (try simp only [Act.put]); (try simp only [List.setIfInBounds_toArray]); (try simp only [List.set_cons_zero, List.set_cons_succ])
              refine wpAnyH_ready (rs := [4]) (by kernel_rfl) (by simp) ?_
              refine AllReadyH.cons (o := _) rfl (fun K hK => ?_) AllReadyH.nil
              (try simp only [List.getElem_toArray, List.getElem_cons_zero, List.getElem_cons_succ])
              go_simp
              refine hK.out _ _ (by first | assumption | exact KS.out _ HKW.out | exact KS.out _ HKW.out.drew | exact KS.out _ HK1.out | exact KS.out _ HK2.out | exact KS.out _ HK5.out | exact KS.out _ HK6.out) (fun hHeld4 => ?_)
              clear hK K
              (try simp only [Act.put]); (try simp only [List.setIfInBounds_toArray]); (try simp only [List.set_cons_zero, List.set_cons_succ])
              refine wpAnyH_ready (rs := [9]) (by kernel_rfl) (by simp) ?_
              refine AllReadyH.cons (o := _) rfl (fun K hK => ?_) AllReadyH.nil
              refine step_append_lies _ rfl (.tmp 69) (.tmp 73) 30 rfl W1.heap.size 3 i3 _ 1 8 Tryd.underlying30 HIi3.out HZi3.out HSi3.out HYi3.out rfl (by decide) v3 i _ rfl HO2.out ⟨v.heap.size, 0, none⟩ 1 1 [.int .i64 (xs : Int)] rfl rfl (World.news_of_block (heap_new _ _)) (by simp [Value.oneCell']) (by decide) hm1 hm2 HZ2.out _ rfl ?_
              intro g5 cap w5 hown hgrow hat hlt5
              have HG5 : Hid (v.grownBy w5 v3.ownBlock) := grown_trans (World.grownBy_alloc _ _ _) hgrow
              have HOW := hidden hown
              have HK5 : Hid (Kp [lb, cb] W1 w5) := HK1.out.grow HG5.out (fun k hk => (HO1.out.lt k hk).1)
              have hB5 : Blk w5 cb 32 _ := (HG5.out.block cb HC1.out.box.lt (fun e => by have := (HO1.out.lt cb e.symm).1; have := HC1.out.lt; omega)).trans HC1.out.box
              have c5 : w5.cell? ⟨cb, 7, none⟩ = some v3 := hB5.cell rfl
              have f5 := hB5.frozen 7
              clear hown hgrow hat hlt5 hB5
              have HK6 : Hid (Kp [lb, cb] W1 (w5.setCell ⟨cb, 7, none⟩ (.slice (some ⟨g5, 0, none⟩) (i + 1) cap))) := HK5.out.trans (Kp.set _ _ _ _ _ (by simp))
              refine hK.out _ _ (by first | assumption | exact KS.out _ HKW.out | exact KS.out _ HKW.out.drew | exact KS.out _ HK1.out | exact KS.out _ HK2.out | exact KS.out _ HK5.out | exact KS.out _ HK6.out) (fun hHeld11 => ?_)
              clear hK K
              (try simp only [Act.put]); (try simp only [List.setIfInBounds_toArray]); (try simp only [List.set_cons_zero, List.set_cons_succ])
              refine wpAnyH_take (i := 10) (oi := _) (v := ?_) rfl (by kernel_rfl) (by kernel_rfl) (by kernel_rfl) (fun _ _ _ h => h) (Or.inl ⟨by rfl, ?_⟩) (by assumption) ?_
              rotate_left
              · (intro w0 hSw; (try dsimp only at hSw); (try simp only [List.getElem_toArray, List.getElem_cons_zero, List.getElem_cons_succ]); go_simp; try (with_reducible rfl))
              try simp only [Act.put, List.getElem_toArray, List.getElem_cons_zero, List.getElem_cons_succ, List.setIfInBounds_toArray, List.set_cons_zero, List.set_cons_succ]
              refine wpAnyH_take (i := 11) (oi := _) (v := ?_) rfl (by kernel_rfl) (by kernel_rfl) (by kernel_rfl) (fun _ _ _ h => h) (Or.inl ⟨by rfl, ?_⟩) (by assumption) ?_
              rotate_left
              · (intro w0 hSw; (try dsimp only at hSw); (try simp only [List.getElem_toArray, List.getElem_cons_zero, List.getElem_cons_succ]); go_simp; try (with_reducible rfl))
              try simp only [Act.put, List.getElem_toArray, List.getElem_cons_zero, List.getElem_cons_succ, List.setIfInBounds_toArray, List.set_cons_zero, List.set_cons_succ]
              refine wpAnyH_ready (rs := [12]) (by kernel_rfl) (by simp) ?_
              refine AllReadyH.cons (o := _) rfl (fun K hK => ?_) AllReadyH.nil
              (try simp only [List.getElem_toArray, List.getElem_cons_zero, List.getElem_cons_succ])
              go_simp
              refine hK.out _ _ (by first | assumption | exact KS.out _ HKW.out | exact KS.out _ HKW.out.drew | exact KS.out _ HK1.out | exact KS.out _ HK2.out | exact KS.out _ HK5.out | exact KS.out _ HK6.out) (fun hHeld14 => ?_)
              clear hK K
              (try simp only [Act.put]); (try simp only [List.setIfInBounds_toArray]); (try simp only [List.set_cons_zero, List.set_cons_succ])
              refine wpAnyH_done (by kernel_rfl) ?_ _
              refine NoPanic.normal ?_
              have HC6 : Hid (CbAt W1.heap.size (w5.setCell ⟨cb, 7, none⟩ (.slice (some ⟨g5, 0, none⟩) (i + 1) cap)) cb sh v1 v2 (.slice (some ⟨g5, 0, none⟩) (i + 1) cap) cols ((List.range nr).map regS) ((List.range (i + 1)).map outS)) := by
                have := HC1.out.push3 (x := (xs : Int)) (u := .slice (some ⟨g5, 0, none⟩) (i + 1) cap) (by rw [HLR.out]; exact HOW.out) HG5.out
                rw [HNR.out] at this
                exact this
              have HLB : Hid (Blk (w5.setCell ⟨cb, 7, none⟩ (.slice (some ⟨g5, 0, none⟩) (i + 1) cap)) lb 79 (ldQ a bs c (Q + (i + 1) * k1) (!(colsOk nc && ((List.range nr).map regS).all (RgD.ok s1) && ((List.range (i + 1)).map outS).all (inR s1))))) := by
                refine (But.set cb 7 w5 _).blk ((HG5.out.block lb HL1.out.lt (fun e => by have := (HO1.out.lt lb e.symm).1; omega)).trans ?_) (Ne.symm hcl)
                have := HL1.out
                rw [HNX.out.1, HNX.out.2] at this
                exact this
              generalize w5.setCell ⟨cb, 7, none⟩ (.slice (some ⟨g5, 0, none⟩) (i + 1) cap) = X at *
              clear HO1 HO2 HG5 HOW c5 f5 q1 q2 q3 HC1 HL1 HK5 HK1 HK2
              go_wp2
              go_roundw
              case measure => simp [intOf]; omega
              case rel => exact ⟨i + 1, _, by omega, by simp, HC6.out, HLB.out, HK6.out⟩
            · have hge3 : ¬ ((i : Int) < (no : Int)) := by omega
              obtain rfl : no = i := by omega
              go_wp2
              go_end0
              refine ⟨⟨_, rfl⟩, W1.heap.size, v1, v2, v3, cols, HWS.out, ?_, ?_, (Below.kp HB1.out).trans HKW.out, ?_⟩
              · rw [← HRG.out, ← HOU.out]; exact HCB.out
              · rw [← HCLS.out]; exact HMC.out
              · rw [← HFIN.out]; exact HLK.out

end Go.Proofs.YtjbnejjjbdalaaaDoor
