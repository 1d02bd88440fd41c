import Derived.Test.YtlkhmcajedjojaaJ33
namespace Go.Proofs.Ytlkhmcajedjojaa
open Go.RowKit

theorem Oth.below {bs : List Nat} {V w : World} {C : Nat} (h : Oth bs V w) (hC : C ≤ V.heap.size) (hb : ∀ b, b ∈ bs → C ≤ b) : Below C V w :=
  ⟨h.os, h.tape, h.output, h.size, fun k hk => h.block k (Nat.lt_of_lt_of_le hk hC) (fun hm => by have := hb k hm; omega)⟩
theorem Oth.wide {bs cs : List Nat} {a b : World} (h : Oth bs a b) (hs : ∀ x, x ∈ bs → x ∈ cs) : Oth cs a b := ⟨h.os, h.tape, h.output, h.size, fun k hk hr => h.block k hk (fun hm => hr (hs k hm))⟩
theorem Oth.grown {bs : List Nat} {V w w' : World} {r : Option Nat} (h : Oth bs V w) (hg : w.grownBy w' r) (hr : ∀ x, r = some x → x ∈ bs ∨ V.heap.size ≤ x) : Oth bs V w' :=
  ⟨hg.os.trans h.os, hg.tape.trans h.tape, hg.output.trans h.output, Nat.le_trans h.size hg.size, fun k hk hn => (hg.block k (Nat.lt_of_lt_of_le hk h.size) (fun e => by
    rcases hr k e.symm with hx | hx
    · exact hn hx
    · omega)).trans (h.block k hk hn)⟩
theorem grown_alloc (w : World) (o : Obj) (r : Option Nat) : w.grownBy (w.alloc o) r := ⟨rfl, rfl, rfl, by simp, fun k hk _ => by unfold World.alloc; simp only [Array.getElem?_push]; rw [if_neg (by omega)]⟩
theorem RowAt.grown {B : Nat} {w w' : World} {a : Option Addr} {sz : Nat} {els : List (List Value)} {r : Option Nat} (h : RowAt B w a sz els) (hg : w.grownBy w' r) (hne : ∀ b o, a = some ⟨b, o, none⟩ → r ≠ some b) : RowAt B w' a sz els := fun he => by
  obtain ⟨b, o, ha, hlt, hc⟩ := h he
  exact ⟨b, o, ha, hlt, fun i cs h1 j x h2 => hg.cell (hc i cs h1 j x h2) (by intro e; exact hne b o ha e.symm)⟩
theorem MsIn.mono {C C' : Nat} {w : World} {ms : List MB} (h : MsIn C w ms) (hc : C' ≤ C) : MsIn C' w ms := ⟨fun m hm => own_mono (h.own m hm) hc, h.apart⟩
theorem MsIn.kept {C : Nat} {w w' : World} {ms : List MB} {r : Option Nat} (h : MsIn C w ms) (hg : w.grownBy w' r) (hr : ∀ m, m ∈ ms → r ≠ some m.b) : MsIn C w' ms := ⟨fun m hm => (h.own m hm).kept hg (.inr (fun e => hr m hm e.symm)), h.apart⟩
theorem own_addr {w : World} {C e n m c x : Nat} {a : Option Addr} {xs : List Value} (h : w.ownsRow C e 1 (.slice a m c) n xs) (hx : Value.ownBlock (.slice a m c) = some x) : a = some ⟨x, 0, none⟩ := by
  rcases h.2 with ⟨h', _⟩ | ⟨g, cap, cur, h', _⟩
  · simp only [Value.slice.injEq] at h'; rw [h'.1] at hx; cases hx
  · simp only [Value.slice.injEq] at h'; rw [h'.1] at hx ⊢; cases hx; rfl
theorem val_same (vs : List Nat) (l : List WrD) (ms : List MB) : (l.foldl (wrStep vs) ms).map MB.val = ms.map MB.val := by
  obtain ⟨h1, h2⟩ := fold_same vs l ms
  apply List.ext_getElem?
  intro i
  have e1 := congrArg (fun l => l[i]?) h1
  have e2 := congrArg (fun l => l[i]?) h2
  simp only [List.getElem?_map] at e1 e2 ⊢
  cases ha : (l.foldl (wrStep vs) ms)[i]? with
  | none =>
    cases hb : ms[i]? with
    | none => rfl
    | some b => rw [ha, hb] at e1; simp at e1
  | some a =>
    cases hb : ms[i]? with
    | none => rw [ha, hb] at e1; simp at e1
    | some b =>
      rw [ha, hb] at e1 e2
      simp only [Option.map_some, Option.some.injEq] at e1 e2 ⊢
      unfold MB.val
      rw [e1, e2]
theorem US.oth {bs : List Nat} {w w' : World} {v : Value} {l : List Nat} (h : US w v l) (ho : Oth bs w w') (hn : ∀ x, v.ownBlock = some x → x ∉ bs) : US w' v l := by
  rcases h with h | ⟨b, o, c, rfl, hlt, hc⟩
  · exact .inl h
  · exact .inr ⟨b, o, c, rfl, Nat.lt_of_lt_of_le hlt ho.size, fun i x hx => (ho.cell (p := ⟨b, o + i, none⟩) hlt (hn b rfl)).trans (hc i x hx)⟩
/-- a trace in memory -/
structure TrW (B : Nat) (w : World) (a : Option Addr) (trs : List MD) : Prop where
  row : RowAt B w a 1 (trs.map MD.cells)
  each : ∀ t, t ∈ trs → RowAt B w t.a 1 (t.l.map uN) ∧ t.l.length < big ∧ ∀ x, x ∈ t.l → x < 18446744073709551616
  len : trs.length ≤ 5864062014805
theorem TrW.to {B : Nat} {w w' : World} {a : Option Addr} {trs : List MD} (h : TrW B w a trs) (hb : Below B w w') : TrW B w' a trs := ⟨h.row.to hb, fun t ht => ⟨(h.each t ht).1.to hb, (h.each t ht).2⟩, h.len⟩
def MB.md (m : MB) : MD := ⟨some ⟨m.b, 0, none⟩, m.l.length, m.l⟩
theorem md_l (ms : List MB) : (ms.map MB.md).map MD.l = ms.map MB.l := by rw [List.map_map]; rfl
theorem md_cells (ms : List MB) : (ms.map MB.md).map MD.cells = ms.map fun m => [m.val] := by rw [List.map_map]; rfl
theorem ms_at {C : Nat} {w : World} {ms : List MB} {am : Option Addr} (h : MsIn C w ms) (hr : RowAt w.heap.size w am 1 (ms.map fun m => [m.val])) (hbig : ∀ m, m ∈ ms → m.l.length < big) : MemsAt w.heap.size w am (ms.map MB.md) := by
  refine ⟨by rw [md_cells]; exact hr, fun m hm => ?_⟩
  obtain ⟨x, hx, rfl⟩ := List.mem_map.1 hm
  have ho := h.own x hx
  obtain ⟨-, aw, cw, hv, hrow⟩ := ownRow (g := uV) ho
  have e : some (⟨x.b, 0, none⟩ : Addr) = aw := by
    have : x.val = .slice (some ⟨x.b, 0, none⟩) x.l.length x.l.length := rfl
    rw [this] at hv; cases hv; rfl
  refine ⟨?_, hbig x hx⟩
  show RowAt _ _ (some ⟨x.b, 0, none⟩) 1 (x.l.map uN)
  rw [e]; exact hrow

set_option maxRecDepth 100000 in
set_option maxHeartbeats 8000000 in
theorem netRun_any (B : Nat) (w : World) (S : NetS) (N : NetD) (h : NetAt B w S N) (hB : B ≤ w.heap.size) (hok : NetOk N = true) (hml : N.mems.length ≤ 8796093022208) (ta : Option Addr) (tc : Nat) (trs : List MD) (ht : TrW B w ta trs) :
    Calls Try.prog 24 #[.agg (S.cells N), .slice ta trs.length tc] w fun e w' => ∃ v, ∃ rows : List RW, e = .returned v ∧ w'.ownsRow w.heap.size 34 1 v trs.length (rows.map RW.v) ∧ rows.map RW.l = runW N (trs.map MD.l) (initW N) ∧ (∀ r, r ∈ rows → US w' r.v r.l) ∧ Below w.heap.size w w' := by
  have P := net_parts hok
  have HSO : Hid (∀ tr, SOk N (stW N (initW N) tr)) := fun tr => stW_ok h hok tr (init_ok h hok)
  have HAT := hidden h
  have HTR := hidden ht
  have HP := hidden P
  have HOK := hidden hok
  have hlen := ht.len
  have l2 := h.lr
  have l4 := h.lw
  have l5 := h.lo
  simp only [big] at l2 l4 l5
  clear h ht P hok
  obtain ⟨i34, hi34, hz34, hs34, hb34⟩ := info_sl
  have HI3 := hidden hi34
  have HZ3 := hidden hz34
  have HS3 := hidden hs34
  have HBY3 := hidden hb34
  clear hi34 hz34 hs34 hb34
  obtain ⟨s0, HS0⟩ : ∃ s, Hid (initW N = s) := ⟨_, rfl⟩
  have HS0r : Hid (s0.r = initR N) := by show _ = _; rw [← HS0.out]; rfl
  have HS0m : Hid (s0.m = initM N) := by show _ = _; rw [← HS0.out]; rfl
  rw [HS0.out] at HSO ⊢
  unfold NetS.cells
  go_enter Try.func24, Try.ntmps24
  go_upto_block 0 with fail
  generalize hW : World.alloc w _ = W
  have HB : Hid (Below w.heap.size w W) := by rw [← hW]; exact (Below.refl _ _).alloc (Nat.le_refl _) _
  have QN : Hid (∀ j, W.cell? ⟨w.heap.size, j, none⟩ = (#[.slice S.a0 N.ins.length S.c0, .slice S.a1 N.nodes.length S.c1, .slice S.a2 N.regs.length S.c2, .slice S.a3 N.mems.length S.c3, .slice S.a4 N.wrs.length S.c4, .slice S.a5 N.outs.length S.c5] : Array Value)[j]?) := by rw [← hW]; intro j; simp
  have hN : w.heap.size < W.heap.size := by rw [← hW]; simp
  have hBW : B ≤ W.heap.size := Nat.le_trans hB HB.out.size
  have HAW := hidden ((HAT.out.to (HB.out.mono hB)).mono hBW)
  clear hW
  refine nrRegs W W N w.heap.size S.a2 S.c2 (QN.out 2) hN HAW.out.r (fun z hz => (HAT.out.ra z hz).1) l2 (Below.refl _ _) _ _ _ _ _ _ _ _ _ _ _ _ _ _ _ _ _ _ _ _ _ _ _ _ _ _ _ _ _ _ _ _ _ _ _ _ _ _ _ _ _ _ _ _ _ _ _ _ _ _ _ _ _ _ _ _ _ _ _ _ _ _ _ _ _ _ _ _ _ _ _ _ _ _ _ _ _ _ _ _ _ _ _ _ _ _ _ _ _ _ _ _ _ _ _ _ _ _ _ _ _ _ _ _ _ _ _ _ _ _ _ _ _ _ _ _ _ _ _ _ _ _ _ _ _ _ _ _ _ _ _ _ _ _ _ _ _ _ _ _ _ _ _ _ _ _ _ _ _ _ _ _ _ _ _ ?_
  intro w1 s5 s7 s17 s18 s19 s20 s21 s22 s23 s24 s25 s26 s27 s28 s29 s30 s31 s32 hcut
  obtain ⟨hor, hb1⟩ := hcut
  have HB1 := hidden hb1
  obtain ⟨-, ar, cr, hre, -⟩ := ownRow (g := uV) hor
  subst hre
  have HOR := hidden hor
  have h1s := HB1.out.size
  clear hor hb1
  go_upto_block 2 with fail
  refine nrMems w1 N w.heap.size S.a3 S.c3 ((HB1.out.cell (p := ⟨w.heap.size, 3, none⟩) hN).trans (QN.out 3)) (Nat.lt_of_lt_of_le hN h1s) ((HAW.out.m.to HB1.out).mono h1s) (fun z hz => (HP.out.mem z hz).2) hml _ _ _ _ _ _ _ _ _ _ _ _ _ _ _ _ _ _ _ _ _ _ _ _ _ _ _ _ _ _ _ _ _ _ _ _ _ _ _ _ _ _ _ _ _ _ _ _ _ _ _ _ _ _ _ _ _ _ _ _ _ _ _ _ _ _ _ _ _ _ _ _ _ _ _ _ _ _ _ _ _ _ _ _ _ _ _ _ _ _ _ _ _ _ _ _ _ _ _ _ _ _ _ _ _ _ _ _ _ _ _ _ _ _ _ _ _ _ _ _ _ _ _ _ _ _ _ _ _ _ _ _ _ _ _ _ _ _ _ _ _ _ _ _ _ _ _ _ _ _ _ _ _ _ _ ?_
  intro V s6 s8 s33 s34 s35 s36 s37 s38 s39 s40 s41 s42 s43 s44 s45 s46 s47 s48 s49 hcut
  obtain ⟨ms, hml0, hmi, hom, hsm, hb2⟩ := hcut
  obtain ⟨-, am, cm, hme, -⟩ := ownRow (g := MB.val) hom
  subst hme
  have HMI := hidden hmi
  have HOM := hidden hom
  have HB2 := hidden hb2
  have HML0 : Hid (ms.map MB.l = s0.m) := by show _ = _; rw [HS0m.out]; exact hml0
  have hmsl : ms.length = N.mems.length := by have := congrArg List.length hml0; simpa using this
  have h2s := HB2.out.size
  obtain ⟨bs, HBS⟩ : ∃ bs, Hid (ms.map MB.b = bs) := ⟨_, rfl⟩
  have HBL : Hid (∀ b, b ∈ bs → w1.heap.size ≤ b ∧ b < V.heap.size) := by
    intro b hb
    rw [← HBS.out] at hb
    obtain ⟨m, hm, rfl⟩ := List.mem_map.1 hb
    exact (HMI.out.own m hm).lt m.b rfl
  have HMB : Hid (∀ b o, am = some ⟨b, o, none⟩ → b ∉ bs ∧ w1.heap.size ≤ b ∧ b < V.heap.size) := by
    intro b o e
    subst e
    refine ⟨fun hb => ?_, HOM.out.lt b rfl⟩
    rw [← HBS.out] at hb
    obtain ⟨m, hm, rfl⟩ := List.mem_map.1 hb
    exact hsm m hm rfl
  have HRB : Hid (∀ x, Value.ownBlock (.slice ar N.regs.length cr) = some x → W.heap.size ≤ x ∧ x < w1.heap.size) := fun x hx => HOR.out.lt x hx
  obtain ⟨rbs, HRBS⟩ : ∃ l, Hid ((Value.ownBlock (.slice ar N.regs.length cr)).toList ++ bs = l) := ⟨_, rfl⟩
  have HRL : Hid (∀ b, b ∈ rbs → W.heap.size ≤ b ∧ b < V.heap.size) := by
    intro b hb
    rw [← HRBS.out] at hb
    rcases List.mem_append.1 hb with hb | hb
    · have := HRB.out b (Option.mem_toList.1 hb)
      omega
    · have := HBL.out b hb
      omega
  have HBV : Hid (Below W.heap.size W V) := HB1.out.trans (HB2.out.mono h1s)
  have HR0 : Hid (V.ownsRow W.heap.size 33 1 (.slice ar N.regs.length cr) N.regs.length (s0.r.map uV)) := by rw [HS0r.out]; exact own_below HOR.out HB2.out
  have HM0 : Hid (V.ownsRow W.heap.size 34 1 (.slice am N.mems.length cm) N.mems.length (ms.map MB.val)) := own_mono HOM.out h1s
  have HI0 : Hid (MsIn W.heap.size V ms) := HMI.out.mono h1s
  clear hml0 hmi hom hsm hb2 HMI HOM HOR
  go_wp2_with fail
  go_loopw [9, 10] (fun out i' w' => ∃ (k : Nat) (rows : List RW) (msk : List MB), k ≤ trs.length ∧ i' = .int .i64 k ∧ Hid (msk.map MB.b = bs) ∧ Hid (msk.map MB.l = (stW N s0 ((trs.take k).map MD.l)).m) ∧ Hid (MsIn W.heap.size w' msk) ∧ Hid (w'.ownsRow W.heap.size 33 1 (.slice ar N.regs.length cr) N.regs.length ((stW N s0 ((trs.take k).map MD.l)).r.map uV)) ∧ Hid (w'.ownsRow W.heap.size 34 1 (.slice am N.mems.length cm) N.mems.length (msk.map MB.val)) ∧ Hid (w'.ownsRow V.heap.size 34 1 out k (rows.map RW.v)) ∧ Hid (rows.map RW.l = runW N ((trs.take k).map MD.l) s0) ∧ Hid (∀ q, q ∈ rows → US w' q.v q.l ∧ Far out q.v ∧ ∀ x, q.v.ownBlock = some x → V.heap.size ≤ x) ∧ Hid (Oth rbs V w')) (fun _ i' _ => trs.length - (intOf i').toNat)
  case atStart => exact ⟨0, [], ms, Nat.zero_le _, rfl, HBS.out, HML0.out, HI0.out, HR0.out, HM0.out, World.ownsRow_nil _ _ _ _, rfl, fun q hq => (by simp at hq), Oth.refl _ _⟩
  case round =>
    obtain ⟨k, rows, msk, hk, rfl, HKB, HKL, HKM, HKR, HKO, HO, HRUN, HRW, HOT⟩ := hrel
    have HBk : Hid (Below W.heap.size W wr) := HBV.out.trans (HOT.out.below (Nat.le_trans h1s h2s) (fun b hb => (HRL.out b hb).1))
    have HBw : Hid (Below w.heap.size w wr) := HB.out.trans (HBk.out.mono HB.out.size)
    have hVr := HOT.out.size
    have hNr : w.heap.size < wr.heap.size := by omega
    have q0 : wr.cell? ⟨w.heap.size, 0, none⟩ = some (.slice S.a0 N.ins.length S.c0) := (HBk.out.cell (p := ⟨w.heap.size, 0, none⟩) hN).trans (QN.out 0)
    have q1 : wr.cell? ⟨w.heap.size, 1, none⟩ = some (.slice S.a1 N.nodes.length S.c1) := (HBk.out.cell (p := ⟨w.heap.size, 1, none⟩) hN).trans (QN.out 1)
    have q2 : wr.cell? ⟨w.heap.size, 2, none⟩ = some (.slice S.a2 N.regs.length S.c2) := (HBk.out.cell (p := ⟨w.heap.size, 2, none⟩) hN).trans (QN.out 2)
    have q3 : wr.cell? ⟨w.heap.size, 3, none⟩ = some (.slice S.a3 N.mems.length S.c3) := (HBk.out.cell (p := ⟨w.heap.size, 3, none⟩) hN).trans (QN.out 3)
    have q4 : wr.cell? ⟨w.heap.size, 4, none⟩ = some (.slice S.a4 N.wrs.length S.c4) := (HBk.out.cell (p := ⟨w.heap.size, 4, none⟩) hN).trans (QN.out 4)
    have q5 : wr.cell? ⟨w.heap.size, 5, none⟩ = some (.slice S.a5 N.outs.length S.c5) := (HBk.out.cell (p := ⟨w.heap.size, 5, none⟩) hN).trans (QN.out 5)
    by_cases hlt : k < trs.length
    · obtain ⟨t, hz⟩ : ∃ t, trs[k]? = some t := ⟨trs[k], List.getElem?_eq_getElem hlt⟩
      obtain ⟨tb, tq, ea, htb, htc⟩ := (HTR.out.to (HBw.out.mono hB)).row.el hz
      have htbr : tb < wr.heap.size := by have := HBw.out.size; omega
      have c0 : wr.cell? ⟨tb, tq + k, none⟩ = some (.slice t.a t.l.length t.c) := by have := htc 0 _ rfl; simpa using this
      subst ea
      have hltI : (k : Int) < (trs.length : Int) := by omega
      have e3 : IntKind.i64.wrap ((k : Int) + 1) = (k : Int) + 1 := wrapI _ (by omega) (by omega)
      obtain ⟨s, HSS⟩ : ∃ s, Hid (stW N s0 ((trs.take k).map MD.l) = s) := ⟨_, rfl⟩
      have HSK : Hid (SOk N s) := by rw [← HSS.out]; exact HSO.out _
      have HNS : Hid (stW N s0 ((trs.take (k + 1)).map MD.l) = stepN N t.l s) := by
        show _ = _
        rw [take_next _ k t hz, List.map_append, show [t].map MD.l = [t.l] from rfl, stW_snoc, HSS.out]
      have HNR : Hid (runW N ((trs.take (k + 1)).map MD.l) s0 = runW N ((trs.take k).map MD.l) s0 ++ [outsN N (valsN N t.l s)]) := by
        show _ = _
        rw [take_next _ k t hz, List.map_append, show [t].map MD.l = [t.l] from rfl, runW_snoc, HSS.out]
      have hkl := HKL.out
      have hkr := HKR.out
      rw [HSS.out] at hkl hkr
      have hmkl : msk.length = N.mems.length := by have := congrArg List.length hkl; rw [List.length_map] at this; rw [this]; exact HSK.out.ml
      have hbig : ∀ m, m ∈ msk → m.l.length < big := by
        intro m hm
        obtain ⟨i, hi, rfl⟩ := List.getElem_of_mem hm
        have h1 : s.m[i]? = some msk[i].l := by rw [← hkl, List.getElem?_map, List.getElem?_eq_getElem hi]; rfl
        obtain ⟨z, hzz⟩ : ∃ z, N.mems[i]? = some z := ⟨N.mems[i]'(by omega), List.getElem?_eq_getElem (by omega)⟩
        have h2 := (HSK.out.mm i _ z h1 hzz).1
        have h3 := (HP.out.mem z (List.mem_of_getElem? hzz)).2
        simp only [big]; omega
      have HBIG := hidden hbig
      have CY : Hid (∀ w', Below wr.heap.size wr w' → Calls Try.prog 36 #[.agg #[.slice S.a0 N.ins.length S.c0, .slice S.a1 N.nodes.length S.c1, .slice S.a2 N.regs.length S.c2, .slice S.a3 N.mems.length S.c3, .slice S.a4 N.wrs.length S.c4, .slice S.a5 N.outs.length S.c5], .slice t.a t.l.length t.c, (.slice ar N.regs.length cr), (.slice am N.mems.length cm)] w' fun e w'' => ∃ v, e = .returned v ∧ w''.ownsRow w'.heap.size 33 1 v N.nodes.length ((valsN N t.l s).map uV) ∧ Below w'.heap.size w' w'') := by
        intro w' hw'
        have hBB := HBw.out.trans (hw'.mono (by have := HBw.out.size; omega))
        have hle : B ≤ w'.heap.size := by have := hBB.size; omega
        have htm := HTR.out.each t (List.mem_of_getElem? hz)
        obtain ⟨-, ar', cr', hr', hrow⟩ := ownRow (g := uV) (own_below hkr hw')
        have er : ar = ar' := by cases hr'; rfl
        obtain ⟨-, am', cm', hm', hrm⟩ := ownRow (g := MB.val) (own_below HKO.out hw')
        have em : am = am' := by cases hm'; rfl
        have hst : StOk N s.r ((msk.map MB.md).map MD.l) := by rw [md_l, hkl]; exact HSK.out
        have := netCycle_any w'.heap.size w' S N ((HAT.out.to (hBB.mono hB)).mono hle) (Nat.le_refl _) HOK.out t.l s.r (msk.map MB.md) hst t.a ar am t.c cr cm ((htm.1.to (hBB.mono hB)).mono hle) htm.2.1 htm.2.2 (by rw [er]; exact hrow) (by rw [em]; exact ms_at (HKM.out.to hw') hrm hbig)
        rw [HSK.out.rl, List.length_map, hmkl, md_l, hkl] at this
        exact this
      clear hz htc HKL HKR
      have HKL := hidden hkl
      have HKR := hidden hkr
      clear hkl hkr
      obtain ⟨vs, HVS⟩ : ∃ vs, valsN N t.l s = vs := ⟨_, rfl⟩
      have HVL : Hid (vs.length = N.nodes.length) := by show _ = _; rw [← HVS]; exact vals_length _ _ _
      have HNS2 : Hid (stepN N t.l s = ⟨nextR N vs, N.wrs.foldl (wrL vs) s.m⟩) := by show _ = _; rw [← HVS]; rfl
      rw [HVS] at CY HNR
      clear HVS
      generalize t.l.length = tl at *
      generalize t.a = tA at *
      generalize t.c = tC at *
      go_wp2_with fail
      go_region_held3 (fun w' => Below wr.heap.size wr w' ∧ (∀ b' o, b' < wr.heap.size → w'.cell? ⟨b', o, none⟩ = wr.cell? ⟨b', o, none⟩))
        (first | assumption | exact sees_of (Below.refl _ _) | exact sees_of (Below.refl _ _).drew | exact sees_after (by assumption) (by assumption))
        (first | (go_at_call 36; refine (CY.out _ (And.left (by assumption))).mono ?_; rintro e w2 ⟨v, rfl, hv2, hb2⟩))
      all_goals
        obtain ⟨pre, HPW, HV2, HBP⟩ : ∃ pre : World, Hid (Below wr.heap.size wr pre) ∧ Hid (w2.ownsRow pre.heap.size 33 1 v N.nodes.length (vs.map uV)) ∧ Hid (Below pre.heap.size pre w2) := by
          refine ⟨_, ?_, hv2, hb2⟩
          first | exact And.left (by assumption) | exact (Below.refl _ _).drew | exact Below.refl _ _
        clear hv2 hb2 CY
        have hv2 := HV2.out
        rw [← HVL.out] at hv2
        obtain ⟨-, av, cv, hve, hrv⟩ := ownRow (g := uV) hv2
        subst hve
        have HAV : Hid (∀ b o, av = some ⟨b, o, none⟩ → wr.heap.size ≤ b) := by
          intro b o e
          subst e
          have := (hv2.lt b rfl).1
          have := HPW.out.size
          omega
        have HRV : Hid (RowAt w2.heap.size w2 av 1 (vs.map uN)) := hrv
        have HBW2 : Hid (Below wr.heap.size wr w2) := HPW.out.trans (HBP.out.mono HPW.out.size)
        have h2r := HBW2.out.size
        have HB2w : Hid (Below w.heap.size w w2) := HBw.out.trans (HBW2.out.mono (by omega))
        have p5 := (HBW2.out.cell (p := ⟨w.heap.size, 5, none⟩) hNr).trans q5
        clear hv2 hrv HV2 HPW HBP q0 q1 q2 q3 q4 q5 c0
        go_upto_block 6 with fail
        refine nrToldG w2 N w.heap.size S.a5 S.c5 p5 (by omega) ((HAT.out.o.to (HB2w.out.mono hB)).mono (by omega)) vs av cv HRV.out (fun a ha => by rw [HVL.out]; exact HP.out.out a ha) l5 _ _ _ _ _ _ _ _ _ _ _ _ _ _ _ _ _ _ _ _ _ _ _ _ _ _ _ _ _ _ _ _ _ _ _ _ _ _ _ _ _ _ _ _ _ _ _ _ _ _ _ _ _ _ _ _ _ _ _ _ _ _ _ _ _ _ _ _ _ _ _ _ _ _ _ _ _ _ _ _ _ _ _ _ _ _ _ _ _ _ _ _ _ _ _ _ _ _ _ _ _ _ _ _ _ _ _ _ _ _ _ _ _ _ _ _ _ _ _ _ _ _ _ _ _ _ _ _ _ _ _ _ _ _ _ _ _ _ _ _ _ _ _ _ _ _ _ _ _ _ _ _ _ _ ?_
        intro w3 s12 s13 s64 s65 s66 s67 s68 s69 s70 s71 s72 s73 s74 s75 s76 s77 s78 s79 s80 s81 hcut
        obtain ⟨ho3, hb3⟩ := hcut
        obtain ⟨-, oa, oc, hse, -⟩ := ownRow (g := uV) ho3
        subst hse
        have HU3 : Hid (US w3 (.slice oa N.outs.length oc) (outsN N vs)) := US.of ho3
        have HX3 : Hid (∀ x, Value.ownBlock (.slice oa N.outs.length oc) = some x → w2.heap.size ≤ x) := fun x hx => (ho3.lt x hx).1
        have HBW3 : Hid (Below wr.heap.size wr w3) := HBW2.out.trans (hb3.mono h2r)
        have HRV3 : Hid (RowAt w3.heap.size w3 av 1 (vs.map uN)) := (HRV.out.to hb3).mono hb3.size
        have HO3 : Hid (w3.ownsRow V.heap.size 34 1 u9 k (rows.map RW.v)) := own_below HO.out HBW3.out
        have h3r := HBW3.out.size
        have HOB : Hid (∀ x, Value.ownBlock u9 = some x → V.heap.size ≤ x ∧ x < wr.heap.size) := fun x hx => HO.out.lt x hx
        have HOT3 : Hid (Oth rbs V w3) := HOT.out.trans (Oth.of_below HBW3.out)
        have HKM3 := hidden (HKM.out.to HBW3.out)
        have HKR3 := hidden (own_below HKR.out HBW3.out)
        have HKO3 := hidden (own_below HKO.out HBW3.out)
        have HRW3 : Hid (∀ q, q ∈ rows → US w3 q.v q.l ∧ Far u9 q.v ∧ ∀ x, q.v.ownBlock = some x → V.heap.size ≤ x) := fun q hq => ⟨(HRW.out q hq).1.to HBW3.out, (HRW.out q hq).2⟩
        have h23 := hb3.size
        clear ho3 hb3 HKM HKR HKO HRW HOT HRV p5
        have hsV : V.heap.size ≤ w3.heap.size := by omega
        have hm1 : k + 1 ≤ maxLen := by simp only [maxLen]; omega
        have hm2 : (k + 1) * 24 ≤ 140737488355328 := by omega
        have hm3 : V.heap.size ≤ (w3.alloc (.cells #[.slice oa N.outs.length oc] 34)).heap.size := by simp; omega
        have tok : True := trivial
        go_upto_block 8 with (have _t := tok; at_builtin; (refine wpList_append_lies _ rfl (.tmp 82) (.tmp 84) 31 rfl V.heap.size 34 i34 _ 1 24 Try.underlying31 HI3.out HZ3.out HS3.out HBY3.out rfl (by decide) u9 k _ rfl (HO3.out.alloc _) ⟨w3.heap.size, 0, none⟩ 1 1 [.slice oa N.outs.length oc] rfl rfl (World.news_of_block (heap_new _ _)) (by simp [Value.oneCell']) (by decide) hm1 hm2 hm3 _ rfl ?_; intro g cap w5 hown hgrow hat5 hlt5; clear tok))
        have HG5 : Hid (w3.grownBy w5 (Value.ownBlock u9)) := grown_trans (grown_alloc w3 _ _) hgrow
        have HO5 : Hid (w5.ownsRow V.heap.size 34 1 (.slice (some ⟨g, 0, none⟩) (k + 1) cap) (k + 1) ((rows ++ [RW.mk (.slice oa N.outs.length oc) (outsN N vs)]).map RW.v)) := by
          show World.ownsRow _ _ _ _ _ _ _
          rw [List.map_append]
          exact hown
        have HAL : Hid (∀ v l, US w3 v l → Far u9 v → US w5 v l ∧ Far (.slice (some ⟨g, 0, none⟩) (k + 1) cap) v) := fun v l hv hf => by
          have hv1 : US (w3.alloc (.cells #[.slice oa N.outs.length oc] 34)) v l := hv.to ((Below.refl _ _).alloc (Nat.le_refl _) _)
          exact ⟨hv1.kept hgrow hf, hf.new hv1 hat5 (Nat.le_refl _)⟩
        have HRW5 : Hid (∀ q, q ∈ rows ++ [RW.mk (.slice oa N.outs.length oc) (outsN N vs)] → US w5 q.v q.l ∧ Far (.slice (some ⟨g, 0, none⟩) (k + 1) cap) q.v ∧ ∀ x, q.v.ownBlock = some x → V.heap.size ≤ x) := by
          intro q hq
          rcases List.mem_append.1 hq with hq | hq
          · have h3 := HRW3.out q hq
            exact ⟨(HAL.out _ _ h3.1 h3.2.1).1, (HAL.out _ _ h3.1 h3.2.1).2, h3.2.2⟩
          · rw [List.mem_singleton.1 hq]
            have hf : Far u9 (.slice oa N.outs.length oc) := fun x hx hy => by
              have := HX3.out x hy
              have := HOB.out x hx
              omega
            exact ⟨(HAL.out _ _ HU3.out hf).1, (HAL.out _ _ HU3.out hf).2, fun x hx => by have := HX3.out x hx; omega⟩
        have HOT5 : Hid (Oth rbs V w5) := HOT3.out.grown HG5.out (fun x hx => .inr (HOB.out x hx).1)
        have HKM5 : Hid (MsIn W.heap.size w5 msk) := HKM3.out.kept HG5.out (fun m hm e => by
          have h1 := (HOB.out m.b e).1
          have h2 := (HBL.out m.b (by rw [← HKB.out]; exact List.mem_map.2 ⟨m, hm, rfl⟩)).2
          omega)
        have HKR5 : Hid (w5.ownsRow W.heap.size 33 1 (.slice ar N.regs.length cr) N.regs.length (s.r.map uV)) := HKR3.out.kept HG5.out (by
          cases hob : Value.ownBlock (.slice ar N.regs.length cr) with
          | none => exact .inl rfl
          | some x =>
            refine .inr (fun e => ?_)
            have h1 := (HOB.out x e.symm).1
            have h2 := (HRB.out x hob).2
            omega)
        have HKO5 : Hid (w5.ownsRow W.heap.size 34 1 (.slice am N.mems.length cm) N.mems.length (msk.map MB.val)) := HKO3.out.kept HG5.out (by
          cases hob : Value.ownBlock (.slice am N.mems.length cm) with
          | none => exact .inl rfl
          | some x =>
            refine .inr (fun e => ?_)
            have h1 := (HOB.out x e.symm).1
            have h2 := (HMB.out x 0 (own_addr HKO3.out hob)).2.2
            omega)
        have HRV5 : Hid (RowAt w5.heap.size w5 av 1 (vs.map uN)) := (RowAt.grown HRV3.out HG5.out (fun b o e hx => by
          have h1 := HAV.out b o e
          have h2 := (HOB.out b hx).2
          omega)).mono HG5.out.size
        have HB5 : Hid (Below W.heap.size W w5) := HBV.out.trans (HOT5.out.below (Nat.le_trans h1s h2s) (fun b hb => (HRL.out b hb).1))
        have h5s := HG5.out.size
        have h5o : ∀ x, Value.ownBlock (.slice (some ⟨g, 0, none⟩) (k + 1) cap) = some x → V.heap.size ≤ x := fun x hx => (HO5.out.lt x hx).1
        have HX5 := hidden h5o
        clear hown hgrow hat5 hlt5 hm1 hm2 hm3 HO3 HOT3 HKM3 HKR3 HKO3 HRW3 HRV3 HAL HU3 HX3 h5o HO HG5
        have p2 := (HB5.out.cell (p := ⟨w.heap.size, 2, none⟩) hN).trans (QN.out 2)
        refine nrNextG w5 N W.heap.size w.heap.size (by omega) S.a2 S.c2 p2 hN (HAW.out.r.to HB5.out) (.slice ar N.regs.length cr) s.r HSK.out.rl HKR5 vs av cv HRV5.out (fun b o e hx => by
          have h1 := HAV.out b o e
          have h2 := (HRB.out b hx).2
          omega) (fun z hz => by
          have := wide_some (HP.out.next z hz)
          rw [HVL.out]; exact ⟨this.1, this.2.1⟩) l2 _ _ _ _ _ _ _ _ _ _ _ _ _ _ _ _ _ _ _ _ _ _ _ _ _ _ _ _ _ _ _ _ _ _ _ _ _ _ _ _ _ _ _ _ _ _ _ _ _ _ _ _ _ _ _ _ _ _ _ _ _ _ _ _ _ _ _ _ _ _ _ _ _ _ _ _ _ _ _ _ _ _ _ _ _ _ _ _ _ _ _ _ _ _ _ _ _ _ _ _ _ _ _ _ _ _ _ _ _ _ _ _ _ _ _ _ _ _ _ _ _ _ _ _ _ _ _ _ _ _ _ _ _ _ _ _ _ _ _ _ _ _ _ _ _ _ _ _ _ _ _ _ _ _ ?_
        intro w6 s14 s86 s87 s88 s89 s90 s91 s92 s93 s94 s95 s96 s97 s98 s99 s100 s101 s102 s103 s104 hcut
        obtain ⟨hor6, hg6⟩ := hcut
        have HKR6 := hidden hor6
        have HKM6 : Hid (MsIn W.heap.size w6 msk) := HKM5.out.kept hg6 (fun m hm e => by
          have h1 := (HRB.out m.b e).2
          have h2 := (HBL.out m.b (by rw [← HKB.out]; exact List.mem_map.2 ⟨m, hm, rfl⟩)).1
          omega)
        have HKO6 : Hid (w6.ownsRow W.heap.size 34 1 (.slice am N.mems.length cm) N.mems.length (msk.map MB.val)) := HKO5.out.kept hg6 (by
          cases hob : Value.ownBlock (.slice am N.mems.length cm) with
          | none => exact .inl rfl
          | some x =>
            refine .inr (fun e => ?_)
            have h1 := (HRB.out x e.symm).2
            have h2 := (HMB.out x 0 (own_addr HKO5.out hob)).2.1
            omega)
        have HO6 : Hid (w6.ownsRow V.heap.size 34 1 (.slice (some ⟨g, 0, none⟩) (k + 1) cap) (k + 1) ((rows ++ [RW.mk (.slice oa N.outs.length oc) (outsN N vs)]).map RW.v)) := HO5.out.kept hg6 (.inr (fun e => by
          have h1 := (HRB.out g e.symm).2
          have h2 := HX5.out g rfl
          omega))
        have HRW6 : Hid (∀ q, q ∈ rows ++ [RW.mk (.slice oa N.outs.length oc) (outsN N vs)] → US w6 q.v q.l ∧ Far (.slice (some ⟨g, 0, none⟩) (k + 1) cap) q.v ∧ ∀ x, q.v.ownBlock = some x → V.heap.size ≤ x) := fun q hq => ⟨(HRW5.out q hq).1.kept hg6 (fun x hx e => by
          have h1 := (HRB.out x hx).2
          have h2 := (HRW5.out q hq).2.2 x e
          omega), (HRW5.out q hq).2⟩
        have HOT6 : Hid (Oth rbs V w6) := HOT5.out.grown hg6 (fun x hx => .inl (by rw [← HRBS.out, hx]; simp))
        have HRV6 : Hid (RowAt w6.heap.size w6 av 1 (vs.map uN)) := (RowAt.grown HRV5.out hg6 (fun b o e hx => by
          have h1 := HAV.out b o e
          have h2 := (HRB.out b hx).2
          omega)).mono hg6.size
        have HB6 : Hid (Below W.heap.size W w6) := HBV.out.trans (HOT6.out.below (Nat.le_trans h1s h2s) (fun b hb => (HRL.out b hb).1))
        have h6s := hg6.size
        clear hor6 hg6 HKM5 HKO5 HO5 HRW5 HOT5 HRV5 HB5 HKR5 p2
        have p3 := (HB6.out.cell (p := ⟨w.heap.size, 3, none⟩) hN).trans (QN.out 3)
        have p4 := (HB6.out.cell (p := ⟨w.heap.size, 4, none⟩) hN).trans (QN.out 4)
        obtain ⟨-, am', cm', hme', hrm6⟩ := ownRow (g := MB.val) HKO6.out
        have hrm6' : RowAt w6.heap.size w6 am 1 (msk.map fun m => [m.val]) := by
          have : am = am' := by cases hme'; rfl
          rw [this]; exact hrm6
        have HRM6 := hidden hrm6'
        clear hrm6 hrm6' hme'
        go_upto_block 10 with fail
        refine wp_last ?_
        refine nrWritesG w6 N W.heap.size w.heap.size (by omega) msk bs (fun b hb => by have := HBL.out b hb; omega) HKB.out.symm HKM6 S.a3 S.a4 S.c3 S.c4 p3 p4 (by omega) (fun hb => by have := HBL.out _ hb; omega) (HAW.out.m.to HB6.out) (HAW.out.wr.to HB6.out) am N.mems.length cm hmkl HRM6.out (fun b o e => (HMB.out b o e).1) vs av cv HRV6.out (fun b o e hb => by
          have h1 := HAV.out b o e
          have h2 := HBL.out b hb
          omega) hmkl (fun m hm => by have := HBIG.out m hm; simpa only [big] using this) (fun b hb => by have := HBL.out b hb; omega) (fun i m z hm hz => by
          have h1 : s.m[i]? = some m.l := by rw [← HKL.out, List.getElem?_map, hm]; rfl
          have h2 := (HSK.out.mm i _ z h1 hz).1
          have h3 := (HP.out.mem z (List.mem_of_getElem? hz)).2
          omega) (fun z hz => by
          have h1 := HP.out.wr z hz
          have h2 := wide_some h1.2.1
          have h3 := wide_some h1.2.2
          rw [HVL.out]
          exact ⟨h1.1.1, h1.1.2.1, h2.1, h2.2.1, h1.1.2.2.1, h1.1.2.2.2, h3.1, h3.2.1⟩) l4 _ _ _ _ _ _ _ _ _ _ _ _ _ _ _ _ _ _ _ _ _ _ _ _ _ _ _ _ _ _ _ _ _ _ _ _ _ _ _ _ _ _ _ _ _ _ _ _ _ _ _ _ _ _ _ _ _ _ _ _ _ _ _ _ _ _ _ _ _ _ _ _ _ _ _ _ _ _ _ _ _ _ _ _ _ _ _ _ _ _ _ _ _ _ _ _ _ _ _ _ _ _ _ _ _ _ _ _ _ _ _ _ _ _ _ _ _ _ _ _ _ _ _ _ _ _ _ _ _ _ _ _ _ _ _ _ _ _ _ _ _ _ _ _ _ _ _ _ _ _ _ _ _ _ ?_
        intro w7 s15 s16 s105 s106 s107 s108 s109 s110 s111 s112 s113 s114 s115 s116 s117 s118 s119 s120 s121 s122 s123 s124 s125 s126 s127 s128 s129 s130 s131 s132 s133 s134 s135 s136 s137 s138 s139 s140 s141 s142 s143 s144 s145 s146 s147 s148 s149 s150 s151 s152 s153 s154 hcut
        obtain ⟨hm7, ho7⟩ := hcut
        have HM7 := hidden hm7
        have HKR7 : Hid (w7.ownsRow W.heap.size 33 1 (.slice ar N.regs.length cr) N.regs.length ((nextR N vs).map uV)) := own_oth HKR6.out ho7 (fun x hx hb => by
          have h1 := (HRB.out x hx).2
          have h2 := HBL.out x hb
          omega)
        have HKO7 : Hid (w7.ownsRow W.heap.size 34 1 (.slice am N.mems.length cm) N.mems.length ((N.wrs.foldl (wrStep vs) msk).map MB.val)) := by
          show World.ownsRow _ _ _ _ _ _ _
          rw [val_same]
          refine own_oth HKO6.out ho7 (fun x hx hb => ?_)
          exact (HMB.out x 0 (own_addr HKO6.out hx)).1 hb
        have HO7 : Hid (w7.ownsRow V.heap.size 34 1 (.slice (some ⟨g, 0, none⟩) (k + 1) cap) (k + 1) ((rows ++ [RW.mk (.slice oa N.outs.length oc) (outsN N vs)]).map RW.v)) := own_oth HO6.out ho7 (fun x hx hb => by
          have h1 := HX5.out x hx
          have h2 := HBL.out x hb
          omega)
        have HRW7 : Hid (∀ q, q ∈ rows ++ [RW.mk (.slice oa N.outs.length oc) (outsN N vs)] → US w7 q.v q.l ∧ Far (.slice (some ⟨g, 0, none⟩) (k + 1) cap) q.v ∧ ∀ x, q.v.ownBlock = some x → V.heap.size ≤ x) := fun q hq => ⟨(HRW6.out q hq).1.oth ho7 (fun x hx hb => by
          have h1 := (HRW6.out q hq).2.2 x hx
          have h2 := HBL.out x hb
          omega), (HRW6.out q hq).2⟩
        have HOT7 : Hid (Oth rbs V w7) := HOT6.out.trans (ho7.wide (fun x hx => by rw [← HRBS.out]; exact List.mem_append.2 (.inr hx)))
        have HKB7 : Hid ((N.wrs.foldl (wrStep vs) msk).map MB.b = bs) := (fold_same vs N.wrs msk).2.trans HKB.out
        have HKL7 : Hid ((N.wrs.foldl (wrStep vs) msk).map MB.l = (stW N s0 ((trs.take (k + 1)).map MD.l)).m) := by
          show _ = _
          rw [HNS.out, HNS2.out, fold_l, HKL.out]
        have HKR7' : Hid (w7.ownsRow W.heap.size 33 1 (.slice ar N.regs.length cr) N.regs.length ((stW N s0 ((trs.take (k + 1)).map MD.l)).r.map uV)) := by
          show World.ownsRow _ _ _ _ _ _ _
          rw [HNS.out, HNS2.out]; exact HKR7.out
        have HRUN7 : Hid ((rows ++ [RW.mk (.slice oa N.outs.length oc) (outsN N vs)]).map RW.l = runW N ((trs.take (k + 1)).map MD.l) s0) := by
          show _ = _
          rw [List.map_append, HNR.out, HRUN.out]; rfl
        clear hm7 ho7 HKM6 HKO6 HO6 HRW6 HOT6 HRV6 HB6 HKR6 HKR7 HRM6 p3 p4 HKL HKB HRUN HNR HNS HNS2 HSK HSS HBIG hbig HX5 HOB HAV hmkl
        go_wp2
        go_roundw
        case measure => simp [intOf]; omega
        case rel => exact ⟨k + 1, _, _, by omega, by simp, HKB7.out, HKL7.out, HM7.out, HKR7'.out, HKO7.out, HO7.out, HRUN7.out, HRW7.out, HOT7.out⟩
    · have hge : ¬ ((k : Int) < (trs.length : Int)) := by omega
      have HO7 : Hid (wr.ownsRow V.heap.size 34 1 u9 trs.length (rows.map RW.v)) := by
        have := HO.out
        rwa [show k = trs.length by omega] at this
      have HL7 : Hid (rows.map RW.l = runW N (trs.map MD.l) s0) := by
        have := HRUN.out
        rwa [List.take_of_length_le (by omega)] at this
      clear HO HRUN
      go_wp2
      go_ret
      exact ⟨_, rfl, rows, own_mono HO7.out (by omega), HL7.out, fun r hr => (HRW.out r hr).1, HBw.out⟩

end Go.Proofs.Ytlkhmcajedjojaa
