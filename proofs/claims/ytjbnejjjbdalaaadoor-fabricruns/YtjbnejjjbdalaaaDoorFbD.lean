import Derived.Test.YtjbnejjjbdalaaaDoorFbC
namespace Go.Proofs.YtjbnejjjbdalaaaDoor
open Go.RowKit

theorem full_blk {w : World} {B g n sz : Nat} {e : TypeId} {xs : List Value} (h : w.ownsRow B e sz (.slice (some ⟨g, 0, none⟩) n n) n xs) : Blk w g e xs.toArray := by
  rcases h.2 with ⟨h', _⟩ | ⟨g', cap', cur, h', _, hh, _, _, hcs, htake⟩
  · simp at h'
  · simp only [Value.slice.injEq, Option.some.injEq, Addr.mk.injEq, and_true, true_and] at h'
    obtain ⟨rfl, rfl⟩ := h'
    show _ = _
    rw [hh]
    rw [List.take_of_length_le (by rw [Array.length_toList, hcs]; exact Nat.le_refl _)] at htake
    rw [← htake]
theorem made_nil (n : Nat) : (madeCells (Value.slice none 0 0).cells (n * 1)).toList = ([] : List RD).map RD.v ++ List.replicate (n - 0) (.slice none 0 0) := by
  rw [Nat.mul_one]
  apply List.ext_getElem?
  intro i
  by_cases h : i < n
  · simp [madeCells, Value.cells, h, Nat.mod_one]
  · simp [madeCells, Value.cells, h]
theorem BS.kp {gs : List Nat} {w w' : World} {v : Value} {l : List Bool} (h : BS w v l) (hk : Kp gs w w') (hne : ∀ x, v.ownBlock = some x → x ∉ gs) : BS w' v l := by
  rcases h with h | ⟨b, o, c, rfl, hb, hc⟩
  · exact .inl h
  · exact .inr ⟨b, o, c, rfl, Nat.lt_of_lt_of_le hb hk.size, fun i x hx => hk.cell (hc i x hx) hb (hne b rfl)⟩
theorem BRow.kp {gs : List Nat} {w w' : World} {g : Nat} {vs : List Bool} (h : BRow w g vs) (hk : Kp gs w w') (hp : g ∉ gs) : BRow w' g vs :=
  ⟨Nat.lt_of_lt_of_le h.1 hk.size, (hk.block g h.1 hp).trans h.2⟩
theorem Kp.more {gs hs : List Nat} {a w : World} (h : Kp gs a w) (hn : ∀ g, g ∈ gs → g ∈ hs) : Kp hs a w :=
  ⟨h.os, h.tape, h.output, h.size, fun k hk hg => h.block k hk (fun hx => hg (hn k hx))⟩
theorem cols_len (v : List Bool) (cs : List ClD) (nl : Nat) (h : ∀ d, d ∈ cs → 2 + d.cs.length = nl) (hv : cs = [] → v.length = nl) : (colsC v cs).length = nl := by
  induction cs generalizing v with
  | nil => exact hv rfl
  | cons d t ih =>
    refine ih (colV v d.cs) (fun x hx => h x (List.mem_cons_of_mem _ hx)) (fun _ => ?_)
    have := h d (List.mem_cons_self ..)
    unfold colV
    simp
    omega
theorem GL_old {sb g0 g1 k : Nat} (hk : 1 ≤ k) : GL sb g0 g1 k = g0 ∨ GL sb g0 g1 k = g1 := by
  obtain ⟨j, rfl⟩ : ∃ j, k = j + 1 := ⟨k - 1, by omega⟩
  rcases LB_cases g0 g1 j with h | h
  · exact .inl h.2
  · exact .inr h.2
theorem nextC_len (N : CnD) (v : List Bool) : (nextC N v).length = N.regs.length := by unfold nextC; simp
theorem take_src (ni : Nat) (xs st : List Bool) (h : xs.length = ni) : ([false, true] ++ (xs ++ st)).take (2 + ni) = [false, true] ++ xs := by
  rw [← List.append_assoc, List.take_append_of_le_length (by simp; omega), List.take_of_length_le (by simp; omega)]
/-- the machine between two cycles -/
def MidP (w' : World) (mk gb sb g0 g1 ni nr nl : Nat) (st : List Bool) : Prop :=
  ∃ (last : Value) (xs a0 a1 : List Bool), Blk w' mk 84 (machA gb sb g0 g1 (2 + ni + nr) nl nl last) ∧ BRow w' sb ([false, true] ++ (xs ++ st)) ∧ xs.length = ni ∧ BRow w' g0 a0 ∧ BRow w' g1 a1 ∧ a0.length = nl ∧ a1.length = nl ∧ a0.take 2 = [false, true] ∧ a1.take 2 = [false, true] ∧ st.length = nr
set_option maxRecDepth 100000 in
set_option maxHeartbeats 8000000 in
theorem run_good (B : Nat) (w : World) (hBw : B ≤ w.heap.size) (a : Option Addr) (c : Nat) (bs : List Nat) (R : RowAt B w a 1 (bs.map byteC)) (hl : bs.length < 281474976710656) (hby : ∀ x, x ∈ bs → x < 256) (hc : bs.length ≤ c) (hg : gOk bs = true) (ta : Option Addr) (tc : Nat) (trs : List TR) (ht : TrAt B w ta trs) (hsh : ∀ t, t ∈ trs → t.l.length < 281474976710656) :
    Calls Tryd.prog 7 #[.slice a bs.length c, .slice ta trs.length tc] w fun e w' => ∃ N v, ∃ rows : List RD, e = .returned (.tuple #[v, .nilIface]) ∧ SpecN (numN (bitL bs)) N ∧ w'.ownsRow w.heap.size 34 1 v trs.length (rows.map RD.v) ∧ rows.map RD.l = runC N (trs.map TR.l) (N.regs.map RgD.init) ∧ (∀ r, r ∈ rows → BS w' r.v r.l) ∧ Below w.heap.size w w' := by
  have LD := hidden (loaded_any B w hBw a c bs R hl hby hc)
  rw [hg] at LD
  have HG := hidden hg
  clear R hby hg
  have HTR := hidden ht
  have hlen := ht.len
  have HSHT := hidden hsh
  clear ht hsh
  obtain ⟨ib, hib, hzb, hsb, hbb⟩ := info_sl
  have HI := hidden hib
  have HZ := hidden hzb
  have HS := hidden hsb
  have HBY := hidden hbb
  clear hib hzb hsb hbb
  have hmkb : ib.bytes * trs.length ≤ 281474976710656 := by rw [HBY.out]; omega
  have hmx : trs.length ≤ maxLen := by simp only [maxLen]; omega
  go_enter Tryd.func7, Tryd.ntmps7
  go_wp2_with fail
  go_at_call 16
  refine LD.out.mono ?_
  rintro e w1 ⟨⟨cs, rfl, _, hp⟩, hb1⟩
  obtain ⟨S, N, rfl, hsp, hcn⟩ := hp rfl
  have HSP := hidden hsp
  have hfit := gOk_fit HG.out hsp
  obtain ⟨ni, hni'⟩ : ∃ n, n = numN (bitL bs) 0 16 := ⟨_, rfl⟩
  obtain ⟨nr, hnr'⟩ : ∃ n, n = numN (bitL bs) 32 16 := ⟨_, rfl⟩
  obtain ⟨nw, hnw'⟩ : ∃ n, n = numN (bitL bs) 48 16 := ⟨_, rfl⟩
  rw [← hni', ← hnr', ← hnw'] at hfit
  have HF := hidden hfit
  have HCN := hidden hcn
  have HB1 := hidden hb1
  clear hni' hnr' hnw' hfit hsp hp hb1 LD HG
  clear hcn
  unfold CnS.cells
  go_wp2_with fail
  generalize hW : World.alloc w1 _ = W
  have HBW : Hid (Below w1.heap.size w1 W) := by rw [← hW]; exact (Below.refl _ _).alloc (Nat.le_refl _) _
  have hN : w1.heap.size < W.heap.size := by rw [← hW]; simp
  have HX : Hid (BoxAt W w1.heap.size S N) := by
    rw [← hW]
    exact BoxAt.new w1 S N
  have HCW : Hid (CnAt W.heap.size W S N) := (HCN.out.to HBW.out).mono HBW.out.size
  clear hW HCN
  obtain ⟨gb, hgb⟩ : ∃ g, g = w1.heap.size := ⟨_, rfl⟩
  rw [← hgb] at HX hN ⊢
  have HBW0 : Hid (Below w.heap.size w W) := HB1.out.trans (HBW.out.mono HB1.out.size)
  have hw1 := HB1.out.size
  have HST : Hid (Calls Tryd.prog 17 #[.pointer (some ⟨gb, 0, none⟩)] W fun e w' => StartP W gb (2 + ni + nr) nw ni (N.regs.map RgD.init) e w') :=
    startC_any W gb ni nr nw S N HX.out HF.out.ins HF.out.regs HF.out.rows HF.out.rl (by have := HF.out.b0; omega) (by have := HF.out.b1; omega) (by have := HF.out.b2; omega) HCW.out.r
  obtain ⟨C, hC⟩ : ∃ n, n = W.heap.size := ⟨_, rfl⟩
  go_at_call 17
  refine HST.out.mono ?_
  rintro e w2 ⟨mk, sb, g0, g1, rfl, hm, hs, h0, h1, ⟨n1, n2, n3, n4, n5, n6⟩, ⟨m1, m2, m3, m4⟩, hb2⟩
  rw [← hC] at HCW hN m1 m2 m3 m4 hb2
  have HM2 := hidden hm
  have HS2 := hidden hs
  have H02 := hidden h0
  have H12 := hidden h1
  have HB2 := hidden hb2
  have hwC : w.heap.size < C := by omega
  have l1 := hm.lt
  have l2 := hs.1
  have l3 := h0.1
  have l4 := h1.1
  have HBC2 : Hid (Below w.heap.size w w2) := HBW0.out.trans (hb2.mono (by omega))
  clear hm hs h0 h1 hb2 HST HBW
  have tok : True := trivial
  go_upto_region 6 with (have _t := tok; at_make; (refine wpList_make_full _ rfl (.tmp 24) (.tmp 24) 23 rfl w2.heap.size 34 ib _ 1 Tryd.underlying23 HI.out HZ.out HS.out .i64 .i64 (trs.length : Int) (trs.length : Int) trs.length rfl rfl rfl rfl hmkb hmx (Nat.le_refl _) ?_; intro V hown1 hgrow1; have HBV := hidden (none_below hgrow1); have HOM := hidden hown1; clear tok hown1 hgrow1))
  obtain ⟨rg, hrg⟩ : ∃ r, r = w2.heap.size := ⟨_, rfl⟩
  have HO0 : Hid (Blk V rg 34 (([] : List RD).map RD.v ++ List.replicate (trs.length - 0) (Value.slice none 0 0)).toArray) := by
    have := full_blk HOM.out
    rw [made_nil, ← hrg] at this
    exact this
  rw [← hrg]
  have hCrg : C ≤ rg := by have := HB2.out.size; omega
  have hne : rg ∉ [mk, sb, g0, g1] := by simp; omega
  obtain ⟨r1, r2, r3, r4⟩ : rg ≠ mk ∧ rg ≠ sb ∧ rg ≠ g0 ∧ rg ≠ g1 := by omega
  have HBVC : Hid (Below C W V) := HB2.out.trans (HBV.out.mono (by have := HB2.out.size; omega))
  have HBV2 : Hid (Below w.heap.size w V) := HBC2.out.trans (HBV.out.mono HBC2.out.size)
  have HMV : Hid (MidP V mk gb sb g0 g1 ni nr (2 + nw) (N.regs.map RgD.init)) := by
    refine ⟨_, List.replicate ni false, _, _, HM2.out.below HBV.out, HS2.out.to HS2.out.1 HBV.out, by simp, H02.out.to H02.out.1 HBV.out, H12.out.to H12.out.1 HBV.out, by simp; omega, by simp; omega, rfl, rfl, ?_⟩
    rw [List.length_map, HF.out.rl]
  have HXV : Hid (BoxAt V gb S N) := HX.out.to hN HBVC.out
  have HCV : Hid (CnAt C V S N) := HCW.out.to HBVC.out
  have hVs : C ≤ V.heap.size := by have := HBVC.out.size; omega
  have hrV := HO0.out.lt
  have lV1 : mk < V.heap.size ∧ sb < V.heap.size ∧ g0 < V.heap.size ∧ g1 < V.heap.size := by have := HBV.out.size; omega
  have hw2 := HBC2.out.size
  clear HOM HM2 HS2 H02 H12 hrg HBV HB2 HB1 HX HCW HBC2 HBW0 HBVC l1 l2 l3 l4
  have HGS : Hid (∀ g, g ∈ [mk, sb, g0, g1, rg] → C ≤ g) := by intro g hg; simp at hg; omega
  go_wp2_with fail
  go_loopw [28] (fun i' w' => ∃ (k : Nat) (rows : List RD), k ≤ trs.length ∧ i' = .int .i64 k ∧ Hid (rows.length = k) ∧ Hid (MidP w' mk gb sb g0 g1 ni nr (2 + nw) (stC N (N.regs.map RgD.init) ((trs.take k).map TR.l))) ∧ Hid (Blk w' rg 34 (rows.map RD.v ++ List.replicate (trs.length - k) (Value.slice none 0 0)).toArray) ∧ Hid (rows.map RD.l = runC N ((trs.take k).map TR.l) (N.regs.map RgD.init)) ∧ Hid (∀ r, r ∈ rows → BS w' r.v r.l ∧ ∀ x, r.v.ownBlock = some x → V.heap.size ≤ x) ∧ Hid (Kp [mk, sb, g0, g1, rg] V w')) (fun i' _ => trs.length - (intOf i').toNat)
  case atStart => exact ⟨0, [], Nat.zero_le _, rfl, rfl, HMV.out, HO0.out, rfl, fun r hr => (by simp at hr), Kp.refl _ _⟩
  case round =>
    obtain ⟨k, rows, hk, rfl, HRN, HM, HO, HRL, HRB, HBT⟩ := hrel
    have HBr : Hid (Below C V wr) := HBT.out.below HGS.out hVs
    have HBr0 : Hid (Below w.heap.size w wr) := HBV2.out.trans (HBr.out.mono (by omega))
    by_cases hlt : k < trs.length
    · obtain ⟨t, hz⟩ := getElem_lt hlt
      obtain ⟨tb, tof, ea, htb, htc⟩ := (HTR.out.to (HBr0.out.mono hBw)).row.el hz
      have c0 : wr.cell? ⟨tb, tof + k, none⟩ = some (.slice t.a t.l.length t.c) := by have := htc 0 _ rfl; simpa using this
      subst ea
      have hltI : (k : Int) < (trs.length : Int) := by omega
      have e3 : IntKind.i64.wrap ((k : Int) + 1) = (k : Int) + 1 := wrapI _ (by omega) (by omega)
      obtain ⟨st, HST⟩ : ∃ st, Hid (stC N (N.regs.map RgD.init) ((trs.take k).map TR.l) = st) := ⟨_, rfl⟩
      rw [HST.out] at HM
      have HNS : Hid (stC N (N.regs.map RgD.init) ((trs.take (k + 1)).map TR.l) = nextC N (cycC N t.l st)) := by
        show _ = _
        rw [take_next _ k t hz, List.map_append, show [t].map TR.l = [t.l] from rfl, stC_snoc, HST.out]
      have HNR : Hid (runC N ((trs.take (k + 1)).map TR.l) (N.regs.map RgD.init) = runC N ((trs.take k).map TR.l) (N.regs.map RgD.init) ++ [outC N (cycC N t.l st)]) := by
        show _ = _
        rw [take_next _ k t hz, List.map_append, show [t].map TR.l = [t.l] from rfl, runC_snoc, HST.out]
      have htm : t ∈ trs := List.mem_of_getElem? hz
      obtain ⟨last, xs, a0, a1, hm, hs, hxl, hr0, hr1, hl0, hl1, ht0, ht1, hsl⟩ := HM.out
      have hwr := HBr.out.size
      have HXr : Hid (BoxAt wr gb S N) := HXV.out.to hN HBr.out
      obtain ⟨cy, hcy⟩ : ∃ c, c = cycC N t.l st := ⟨_, rfl⟩
      have hcc : colsC ([false, true] ++ (inC ni t.l ++ st)) N.cols = cy := by rw [hcy]; exact cyc_cols N ni HF.out.ins t.l st
      have hcl : cy.length = 2 + nw := by
        rw [← hcc]
        exact cols_len _ _ _ HF.out.cl (fun e => by have := HF.out.nc; rw [e] at this; simp at this)
      have HWO : Hid (Calls Tryd.prog 18 #[.pointer (some ⟨mk, 0, none⟩), .slice t.a t.l.length t.c] wr fun e w' => (∃ v, e = .returned v) ∧ ∃ a0 a1, OutP wr w' mk gb sb g0 g1 (2 + ni + nr) (2 + nw) ([false, true] ++ (inC ni t.l ++ st)) cy N.cols.length a0 a1) := by
        have := workOutC_any C wr mk gb sb g0 g1 ni nr (2 + nw) S N st xs a0 a1 last hm HXr.out hs hr0 hr1 HF.out.ins hxl hsl (by have := HF.out.b0; omega) (by have := HF.out.b1; omega) n1 (by omega) n2 n3 n4 n5 n6 (by omega) (by omega) (by omega) ⟨m2, m3, m4, m1⟩ hl0 hl1 ht0 ht1 (by omega) (HCV.out.to HBr.out) HF.out.cl (by have := HF.out.b2; omega) HF.out.ok t.l t.a t.c (((HTR.out.each t htm).to (HBr0.out.mono hBw)).mono (by omega)) (HSHT.out t htm)
        rw [hcc] at this
        exact this
      rw [← hcy] at HNS HNR
      clear hz htc HST htm HM hm hs hr0 hr1 hl0 hl1 ht0 ht1 hcy hcc hxl
      generalize t.l.length = tl at *
      generalize t.a = tA at *
      generalize t.c = tC at *
      go_wp2_with fail
      go_at_call 18
      refine HWO.out.mono ?_
      rintro e w3 ⟨⟨vv, rfl⟩, b0, b1, ho3⟩
      have HOP := hidden ho3
      have HX3 : Hid (BoxAt w3 gb S N) := HXr.out.to hN (ho3.kp.below (by intro g hg; simp at hg; omega) (by omega))
      have HO3 : Hid (Blk w3 rg 34 (rows.map RD.v ++ List.replicate (trs.length - k) (Value.slice none 0 0)).toArray) := ho3.kp.blk HO.out hne
      have HR3 : Hid (∀ r, r ∈ rows → BS w3 r.v r.l ∧ ∀ x, r.v.ownBlock = some x → V.heap.size ≤ x) := fun r hr => ⟨(HRB.out r hr).1.kp ho3.kp (by intro x hx; have := (HRB.out r hr).2 _ hx; simp; omega), (HRB.out r hr).2⟩
      have HT3 : Hid (Kp [mk, sb, g0, g1, rg] V w3) := HBT.out.trans (ho3.kp.more (by intro g hg; simp at hg ⊢; omega))
      have HB3 : Hid (Below C V w3) := HT3.out.below HGS.out hVs
      have hw3 := HB3.out.size
      clear HWO HO HRB HBT HBr HBr0 c0 hwr HXr ho3
      obtain ⟨gl, hgl⟩ : ∃ g, g = GL sb g0 g1 N.cols.length := ⟨_, rfl⟩
      have hgl2 : gl = g0 ∨ gl = g1 := by rw [hgl]; exact GL_old HF.out.nc
      have HMK3 : Hid (Blk w3 mk 84 (machA gb sb g0 g1 (2 + ni + nr) (2 + nw) (2 + nw) (.slice (some ⟨gl, 0, none⟩) cy.length cy.length))) := by rw [hgl]; exact HOP.out.m
      have HGR3 : Hid (BRow w3 gl cy) := by rw [hgl]; exact HOP.out.r
      have HSH : Hid (Calls Tryd.prog 19 #[.pointer (some ⟨mk, 0, none⟩)] w3 fun e w' => e = .returned (.slice (some ⟨w3.heap.size, 0, none⟩) N.outs.length N.outs.length) ∧ w'.ownsRow w3.heap.size 4 1 (.slice (some ⟨w3.heap.size, 0, none⟩) N.outs.length N.outs.length) N.outs.length ((outC N cy).map bV) ∧ Below w3.heap.size w3 w') :=
        shown_any w3 mk gb gl cy.length S N cy (HMK3.out.cell rfl) (HMK3.out.cell rfl) HMK3.out.lt HX3.out HGR3.out (by have := HF.out.b2; omega) (((HCV.out.o).to HB3.out).mono (by omega)) (by rw [hcl]; exact HF.out.ou) (by have := HF.out.ol; omega)
      go_wp2_with fail
      go_at_call 19
      refine HSH.out.mono ?_
      rintro e w4 ⟨rfl, ho4, hb4⟩
      obtain ⟨nb, hnb⟩ : ∃ n, n = w3.heap.size := ⟨_, rfl⟩
      rw [← hnb] at ho4 ⊢
      obtain ⟨oc, hoc⟩ : ∃ o, o = outC N cy := ⟨_, rfl⟩
      rw [← hoc] at ho4 HNR
      have HMK4 : Hid (Blk w4 mk 84 (machA gb sb g0 g1 (2 + ni + nr) (2 + nw) (2 + nw) (.slice (some ⟨gl, 0, none⟩) cy.length cy.length))) := HMK3.out.below hb4
      have HX4 : Hid (BoxAt w4 gb S N) := HX3.out.to HX3.out.lt hb4
      have HGR4 : Hid (BRow w4 gl cy) := HGR3.out.to HGR3.out.1 hb4
      have HSR4 : Hid (BRow w4 sb ([false, true] ++ (inC ni t.l ++ st))) := HOP.out.s.to HOP.out.s.1 hb4
      have H04 : Hid (BRow w4 g0 b0) := HOP.out.b0.to HOP.out.b0.1 hb4
      have H14 : Hid (BRow w4 g1 b1) := HOP.out.b1.to HOP.out.b1.1 hb4
      have HZ4 : Hid (b0.length = 2 + nw ∧ b1.length = 2 + nw ∧ b0.take 2 = [false, true] ∧ b1.take 2 = [false, true]) := ⟨HOP.out.z0, HOP.out.z1, HOP.out.t0, HOP.out.t1⟩
      have HO4 : Hid (Blk w4 rg 34 (rows.map RD.v ++ List.replicate (trs.length - k) (Value.slice none 0 0)).toArray) := HO3.out.below hb4
      have HN4 : Hid (BS w4 (.slice (some ⟨nb, 0, none⟩) N.outs.length N.outs.length) oc) := BS.of ho4
      have HR4 : Hid (∀ r, r ∈ rows ++ [RD.mk (.slice (some ⟨nb, 0, none⟩) N.outs.length N.outs.length) oc] → BS w4 r.v r.l ∧ ∀ x, r.v.ownBlock = some x → V.heap.size ≤ x) := by
        intro r hr
        rcases List.mem_append.1 hr with hr | hr
        · exact ⟨(HR3.out r hr).1.to hb4, (HR3.out r hr).2⟩
        · rw [List.mem_singleton.1 hr]
          refine ⟨HN4.out, fun x hx => ?_⟩
          have : nb = x := by cases hx; rfl
          omega
      have HT4 : Hid (Kp [mk, sb, g0, g1, rg] V w4) := HT3.out.trans (Below.kp hb4)
      clear ho4 hb4 HSH HMK3 HO3 HR3 HT3 HOP HX3 HGR3 HB3 hw3 hnb
      obtain ⟨nv, hnv⟩ : ∃ v, v = Value.slice (some ⟨nb, 0, none⟩) N.outs.length N.outs.length := ⟨_, rfl⟩
      have hold4 : ∃ old, w4.cell? ⟨rg, k, none⟩ = some old := by
        have hL : k < (rows.map RD.v ++ List.replicate (trs.length - k) (Value.slice none 0 0)).length := by simp; have := HRN.out; omega
        exact ⟨_, HO4.out.cell (by rw [List.getElem?_toArray]; exact List.getElem?_eq_getElem hL)⟩
      obtain ⟨old4, hold4⟩ := hold4
      have hfz4 := HO4.out.frozen k
      have HST4 := hidden (HO4.out.set k (.slice (some ⟨nb, 0, none⟩) N.outs.length N.outs.length))
      have HNX : Hid ((rows.map RD.v ++ List.replicate (trs.length - k) (Value.slice none 0 0)).toArray.setIfInBounds k (.slice (some ⟨nb, 0, none⟩) N.outs.length N.outs.length) = ((rows ++ [RD.mk (.slice (some ⟨nb, 0, none⟩) N.outs.length N.outs.length) oc]).map RD.v ++ List.replicate (trs.length - (k + 1)) (Value.slice none 0 0)).toArray) := by
        show _ = _
        have hkl : (rows.map RD.v).length = k := by rw [List.length_map]; exact HRN.out
        rw [List.setIfInBounds_toArray, show trs.length - k = (trs.length - (k + 1)) + 1 by omega, List.replicate_succ]
        conv => lhs; rw [← hkl]
        rw [set_mid, hkl]
        simp
      have HG5 := hidden (Kp.set [rg] rg k w4 (.slice (some ⟨nb, 0, none⟩) N.outs.length N.outs.length) (by simp))
      clear HO4 hnv
      go_wp2_with fail
      generalize hW5 : World.setCell w4 _ _ = w5
      rw [hW5] at HST4 HG5
      have HMK5 : Hid (Blk w5 mk 84 (machA gb sb g0 g1 (2 + ni + nr) (2 + nw) (2 + nw) (.slice (some ⟨gl, 0, none⟩) cy.length cy.length))) := HG5.out.blk HMK4.out (by simp; omega)
      have HX5 : Hid (BoxAt w5 gb S N) := HX4.out.to hN (HG5.out.below (by intro g hg; simp at hg; omega) (by have := HT4.out.size; omega))
      have HGR5 : Hid (BRow w5 gl cy) := HGR4.out.kp HG5.out (by simp; omega)
      have HSR5 : Hid (BRow w5 sb ([false, true] ++ (inC ni t.l ++ st))) := HSR4.out.kp HG5.out (by simp; omega)
      have H05 : Hid (BRow w5 g0 b0) := H04.out.kp HG5.out (by simp; omega)
      have H15 : Hid (BRow w5 g1 b1) := H14.out.kp HG5.out (by simp; omega)
      have HO5 : Hid (Blk w5 rg 34 ((rows ++ [RD.mk (.slice (some ⟨nb, 0, none⟩) N.outs.length N.outs.length) oc]).map RD.v ++ List.replicate (trs.length - (k + 1)) (Value.slice none 0 0)).toArray) := by
        have := HST4.out
        rw [HNX.out] at this
        exact this
      have HR5 : Hid (∀ r, r ∈ rows ++ [RD.mk (.slice (some ⟨nb, 0, none⟩) N.outs.length N.outs.length) oc] → BS w5 r.v r.l ∧ ∀ x, r.v.ownBlock = some x → V.heap.size ≤ x) := fun r hr => ⟨(HR4.out r hr).1.kp HG5.out (by intro x hx; have := (HR4.out r hr).2 _ hx; simp; omega), (HR4.out r hr).2⟩
      have HT5 : Hid (Kp [mk, sb, g0, g1, rg] V w5) := HT4.out.trans (HG5.out.more (by intro g hg; simp at hg ⊢; omega))
      have HB5 : Hid (Below C V w5) := HT5.out.below HGS.out hVs
      have hw5 := HB5.out.size
      clear hW5 HST4 HG5 HMK4 HR4 HT4 HN4 hold4 hfz4 HNX HX4 HGR4 HSR4 H04 H14
      have HCK : Hid (Calls Tryd.prog 20 #[.pointer (some ⟨mk, 0, none⟩)] w5 fun e w' => (∃ v, e = .returned v) ∧ BRow w' sb (([false, true] ++ (inC ni t.l ++ st)).take (2 + ni) ++ nextC N cy) ∧ But sb w5 w') :=
        clockC_any C w5 mk gb sb gl cy.length ni nr S N _ cy (HMK5.out.cell rfl) (by have := HMK5.out.cell (i := 1) rfl; rw [show ([false, true] ++ (inC ni t.l ++ st)).length = 2 + ni + nr by simp [inC_length]; omega]; exact this) (HMK5.out.cell rfl) HX5.out HSR5.out HGR5.out (by have := HF.out.b2; omega) HF.out.ins HF.out.rl (by simp [inC_length]; omega) (by have := HF.out.b0; omega) (by have := HF.out.b1; omega) n1 (by omega) (by omega) m2 (HCV.out.r.to HB5.out) (by rw [hcl]; exact HF.out.rg)
      go_wp2_with fail
      go_at_call 20
      refine HCK.out.mono ?_
      rintro e w6 ⟨⟨vv2, rfl⟩, hr6, hg6⟩
      rw [take_src ni _ _ (inC_length _ _), List.append_assoc] at hr6
      have HM6 : Hid (MidP w6 mk gb sb g0 g1 ni nr (2 + nw) (stC N (N.regs.map RgD.init) ((trs.take (k + 1)).map TR.l))) := by
        rw [HNS.out]
        exact ⟨_, inC ni t.l, b0, b1, hg6.blk HMK5.out n1, hr6, inC_length _ _, H05.out.but hg6 n2, H15.out.but hg6 n3, HZ4.out.1, HZ4.out.2.1, HZ4.out.2.2.1, HZ4.out.2.2.2, by rw [nextC_len, HF.out.rl]⟩
      have HO6 : Hid (Blk w6 rg 34 ((rows ++ [RD.mk (.slice (some ⟨nb, 0, none⟩) N.outs.length N.outs.length) oc]).map RD.v ++ List.replicate (trs.length - (k + 1)) (Value.slice none 0 0)).toArray) := hg6.blk HO5.out (by simp at hne; omega)
      have HR6 : Hid (∀ r, r ∈ rows ++ [RD.mk (.slice (some ⟨nb, 0, none⟩) N.outs.length N.outs.length) oc] → BS w6 r.v r.l ∧ ∀ x, r.v.ownBlock = some x → V.heap.size ≤ x) := fun r hr => ⟨(HR5.out r hr).1.kp (hg6.kp (gs := [sb]) (by simp)) (by intro x hx; have := (HR5.out r hr).2 _ hx; simp; omega), (HR5.out r hr).2⟩
      have HT6 : Hid (Kp [mk, sb, g0, g1, rg] V w6) := HT5.out.trans (hg6.kp (by simp))
      have HL6 : Hid ((rows ++ [RD.mk (.slice (some ⟨nb, 0, none⟩) N.outs.length N.outs.length) oc]).map RD.l = runC N ((trs.take (k + 1)).map TR.l) (N.regs.map RgD.init)) := by
        show _ = _
        rw [List.map_append, HNR.out, HRL.out]; rfl
      have HN6 : Hid ((rows ++ [RD.mk (.slice (some ⟨nb, 0, none⟩) N.outs.length N.outs.length) oc]).length = k + 1) := by show _ = _; rw [List.length_append, HRN.out]; rfl
      clear hr6 hg6 HCK HMK5 HO5 HR5 HT5 HB5 HRL HNR HNS HRN HX5 HGR5 HSR5 H05 H15 HZ4
      go_wp2
      go_roundw
      case measure => simp [intOf]; omega
      case rel => exact ⟨k + 1, _, by omega, by simp, HN6.out, HM6.out, HO6.out, HL6.out, HR6.out, HT6.out⟩
    · have hge : ¬ ((k : Int) < (trs.length : Int)) := by omega
      have HO7 : Hid (wr.ownsRow rg 34 1 (.slice (some ⟨rg, 0, none⟩) trs.length trs.length) trs.length (rows.map RD.v)) := by
        have := HO.out
        rw [show trs.length - k = 0 by omega, List.replicate_zero, List.append_nil] at this
        exact own_of_blk this (Nat.le_refl _) (by rw [List.length_map, HRN.out]; omega) hmx
      have HL7 : Hid (rows.map RD.l = runC N (trs.map TR.l) (N.regs.map RgD.init)) := by
        have := HRL.out
        rwa [List.take_of_length_le (by omega)] at this
      clear HO HRL
      go_wp2
      refine bodyPost_ret (v := .tuple #[.slice (some ⟨rg, 0, none⟩) trs.length trs.length, .nilIface]) (by simp [results, Tryd.results7, go_sem, *]) rfl ?_
      exact ⟨N, _, rfl, HSP.out, rows, own_mono HO7.out (by omega), HL7.out, fun r hr => (HRB.out r hr).1, HBr0.out⟩

end Go.Proofs.YtjbnejjjbdalaaaDoor
