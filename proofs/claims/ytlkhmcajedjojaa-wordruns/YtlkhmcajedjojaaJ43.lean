import Derived.Test.YtlkhmcajedjojaaJ36
import Derived.Test.YtlkhmcajedjojaaJ37
import Derived.Test.YtlkhmcajedjojaaJ42
namespace Go.Proofs.Ytlkhmcajedjojaa
open Go.RowKit

theorem Apart.mono {B B' mk nbk vb rg wb : Nat} {ms : List MB} (h : Apart B mk nbk vb rg wb ms) (hb : B' ≤ B) : Apart B' mk nbk vb rg wb ms :=
  ⟨Nat.le_trans hb h.v, Nat.le_trans hb h.r, h.mv, h.mr, h.nv, h.nr, h.rv, h.wv, h.wr, h.msv, h.msr, h.msm, h.msn, h.msw, fun m hm => Nat.le_trans hb (h.msB m hm)⟩
theorem same_b {ms msk : List MB} (hb : msk.map MB.b = ms.map MB.b) {m : MB} (hm : m ∈ msk) : ∃ m', m' ∈ ms ∧ m'.b = m.b := by
  have : m.b ∈ ms.map MB.b := by rw [← hb]; exact List.mem_map.2 ⟨m, hm, rfl⟩
  obtain ⟨m', h1, h2⟩ := List.mem_map.1 this
  exact ⟨m', h1, h2⟩
theorem Apart.same {B mk nbk vb rg wb : Nat} {ms msk : List MB} (h : Apart B mk nbk vb rg wb ms) (hb : msk.map MB.b = ms.map MB.b) : Apart B mk nbk vb rg wb msk := by
  refine ⟨h.v, h.r, h.mv, h.mr, h.nv, h.nr, h.rv, h.wv, h.wr, fun m hm => ?_, fun m hm => ?_, fun m hm => ?_, fun m hm => ?_, fun m hm => ?_, fun m hm => ?_⟩
  all_goals obtain ⟨m', h1, h2⟩ := same_b hb hm; rw [← h2]
  · exact h.msv m' h1
  · exact h.msr m' h1
  · exact h.msm m' h1
  · exact h.msn m' h1
  · exact h.msw m' h1
  · exact h.msB m' h1
theorem WmAt.to {C : Nat} {w w' : World} {mk nbk vb rg wb : Nat} {S : NetS} {N : NetD} {vals regs : List Nat} {ms : List MB} (h : WmAt C w mk nbk vb rg wb S N vals regs ms) (hb : Below w.heap.size w w') : WmAt C w' mk nbk vb rg wb S N vals regs ms :=
  ⟨(hb.cell (p := ⟨mk, 0, none⟩) h.mlt).trans h.m0, (hb.cell (p := ⟨mk, 1, none⟩) h.mlt).trans h.m1, (hb.cell (p := ⟨mk, 2, none⟩) h.mlt).trans h.m2, (hb.cell (p := ⟨mk, 3, none⟩) h.mlt).trans h.m3, Nat.lt_of_lt_of_le h.mlt hb.size, Nat.lt_of_lt_of_le h.blt hb.size, fun j => (hb.cell (p := ⟨nbk, j, none⟩) h.blt).trans (h.box j), (hb.block vb (lt_of_row h.vrow)).trans h.vrow, (hb.block rg (lt_of_row h.rrow)).trans h.rrow, (hb.block wb (lt_of_row h.wrow)).trans h.wrow, h.mem.to hb⟩
/-- blocks of none of its own were turned -/
theorem WmAt.oth {C : Nat} {bs : List Nat} {w w' : World} {mk nbk vb rg wb : Nat} {S : NetS} {N : NetD} {vals regs : List Nat} {ms : List MB} (h : WmAt C w mk nbk vb rg wb S N vals regs ms) (ho : Oth bs w w') (h1 : mk ∉ bs) (h2 : nbk ∉ bs) (h3 : vb ∉ bs) (h4 : rg ∉ bs) (h5 : wb ∉ bs) (h6 : ∀ m, m ∈ ms → m.b ∉ bs) : WmAt C w' mk nbk vb rg wb S N vals regs ms :=
  ⟨(ho.cell (p := ⟨mk, 0, none⟩) h.mlt h1).trans h.m0, (ho.cell (p := ⟨mk, 1, none⟩) h.mlt h1).trans h.m1, (ho.cell (p := ⟨mk, 2, none⟩) h.mlt h1).trans h.m2, (ho.cell (p := ⟨mk, 3, none⟩) h.mlt h1).trans h.m3, Nat.lt_of_lt_of_le h.mlt ho.size, Nat.lt_of_lt_of_le h.blt ho.size, fun j => (ho.cell (p := ⟨nbk, j, none⟩) h.blt h2).trans (h.box j), (ho.block vb (lt_of_row h.vrow) h3).trans h.vrow, (ho.block rg (lt_of_row h.rrow) h4).trans h.rrow, (ho.block wb (lt_of_row h.wrow) h5).trans h.wrow, ⟨fun m hm => own_oth (h.mem.own m hm) ho (fun x hx => by cases hx; exact h6 m hm), h.mem.apart⟩⟩
/-- the values alone were turned -/
theorem WmAt.vals {C : Nat} {w w' : World} {mk nbk vb rg wb : Nat} {S : NetS} {N : NetD} {vals vals' regs : List Nat} {ms : List MB} {B : Nat} (h : WmAt C w mk nbk vb rg wb S N vals regs ms) (hA : Apart B mk nbk vb rg wb ms) (hg : w.grownBy w' (some vb)) (hl : vals'.length = vals.length) (hr : w'.heap[vb]? = some (.cells (vals'.map uV).toArray 33 (0, 0))) : WmAt C w' mk nbk vb rg wb S N vals' regs ms := by
  have ho : Oth [vb] w w' := Oth.of_grown hg List.mem_cons_self
  have n : ∀ x, x ≠ vb → x ∉ [vb] := fun x hx hm => hx (List.mem_singleton.1 hm)
  exact ⟨(ho.cell (p := ⟨mk, 0, none⟩) h.mlt (n _ hA.mv)).trans h.m0, by rw [hl]; exact (ho.cell (p := ⟨mk, 1, none⟩) h.mlt (n _ hA.mv)).trans h.m1, (ho.cell (p := ⟨mk, 2, none⟩) h.mlt (n _ hA.mv)).trans h.m2, (ho.cell (p := ⟨mk, 3, none⟩) h.mlt (n _ hA.mv)).trans h.m3, Nat.lt_of_lt_of_le h.mlt ho.size, Nat.lt_of_lt_of_le h.blt ho.size, fun j => (ho.cell (p := ⟨nbk, j, none⟩) h.blt (n _ hA.nv)).trans (h.box j), hr, (ho.block rg (lt_of_row h.rrow) (n _ hA.rv)).trans h.rrow, (ho.block wb (lt_of_row h.wrow) (n _ hA.wv)).trans h.wrow, ⟨fun m hm => own_oth (h.mem.own m hm) ho (fun x hx => by cases hx; exact n _ (hA.msv m hm)), h.mem.apart⟩⟩
theorem own_of_row {w : World} {C e n g : Nat} {xs : List Value} (h : w.heap[g]? = some (.cells xs.toArray e (0, 0))) (hC : C ≤ g) (hn : xs.length = n) (hm : n ≤ maxLen) : w.ownsRow C e 1 (.slice (some ⟨g, 0, none⟩) n n) n xs :=
  ⟨by simpa using hn, .inr ⟨g, n, xs.toArray, rfl, hC, h, Nat.le_refl _, hm, by simpa using hn, by simp [List.take_of_length_le, hn]⟩⟩
theorem row_at {w : World} {g : Nat} {l : List Nat} (h : w.heap[g]? = some (.cells (l.map uV).toArray 33 (0, 0))) : RowAt w.heap.size w (some ⟨g, 0, none⟩) 1 (l.map uN) := fun _ => ⟨g, 0, rfl, lt_of_row h, fun i cs hi j x hx => by
  rw [List.getElem?_map] at hi
  cases hy : l[i]? with
  | none => rw [hy] at hi; cases hi
  | some y =>
    rw [hy] at hi
    have e : [Value.int .u64 (y : Int)] = cs := by simpa [uN] using hi
    subst e
    cases j with
    | succ j => simp at hx
    | zero =>
      have ex : Value.int .u64 (y : Int) = x := by simpa using hx
      subst ex
      have := row_cell h hy
      simpa using this⟩
theorem grown_of_below {w w' : World} (h : Below w.heap.size w w') : w.grownBy w' none := ⟨h.os, h.tape, h.output, h.size, fun k hk _ => h.block k hk⟩

set_option maxRecDepth 100000 in
set_option maxHeartbeats 8000000 in
theorem run_any (B : Nat) (w : World) (S : NetS) (N : NetD) (h : NetAt B w S N) (hB : B ≤ w.heap.size) (hok : NetOk N = true) (hml : N.mems.length ≤ 8796093022208) (ta : Option Addr) (tc : Nat) (trs : List MD) (ht : TrW B w ta trs) :
    Calls Try.prog 22 #[.agg (S.cells N), .slice ta trs.length tc] w fun e w' => ∃ v, ∃ rows : List RW, e = .returned v ∧ w'.ownsRow w.heap.size 34 1 v trs.length (rows.map RW.v) ∧ rows.map RW.l = runW N (trs.map MD.l) (initW N) ∧ (∀ r, r ∈ rows → US w' r.v r.l) ∧ Below w.heap.size w w' := by
  have P := net_parts hok
  have HSO : Hid (∀ tr, SOk N (stW N (initW N) tr)) := fun tr => stW_ok h hok tr (init_ok h hok)
  have VL : Hid (∀ w', Below w.heap.size w w' → Calls Try.prog 5 #[.agg (S.cells N)] w' fun e w'' => e = .returned (.bool true) ∧ Below w'.heap.size w' w'') := fun w' hw' => by
    have := valid_any B w' S N (h.to (hw'.mono hB)) (Nat.le_trans hB hw'.size)
    rw [hok] at this
    exact this
  have HSTA : Hid (∀ w' nbk, Below w.heap.size w w' → nbk < w'.heap.size → (∀ j, w'.cell? ⟨nbk, j, none⟩ = (NetS.cells S N)[j]?) → Calls Try.prog 32 #[.pointer (some ⟨nbk, 0, none⟩)] w' fun e w'' => ∃ mk vb rg wb, ∃ ms : List MB, e = .returned (.pointer (some ⟨mk, 0, none⟩)) ∧ WmAt w'.heap.size w'' mk nbk vb rg wb S N (List.replicate N.nodes.length 0) (initR N) ms ∧ Apart w'.heap.size mk nbk vb rg wb ms ∧ ms.map MB.l = initM N ∧ w'.heap.size ≤ mk ∧ w'.heap.size ≤ wb ∧ Below w'.heap.size w' w'') := fun w' nbk hw' hl hb =>
    start_any B w' S N (h.to (hw'.mono hB)) (Nat.le_trans hB hw'.size) nbk hl hb hml (fun z hz => (P.mem z hz).2)
  have HAT := hidden h
  have HTR := hidden ht
  have HP := hidden P
  have HOK := hidden hok
  have hlen := ht.len
  have l2 := h.lr
  have l4 := h.lw
  have l5 := h.lo
  have l1 := h.ln
  simp only [big] at l1 l2 l4 l5
  clear h ht P hok
  obtain ⟨i34, hi34, hz34, hs34, hb34⟩ := info_sl
  have HI3 := hidden hi34
  have HZ3 := hidden hz34
  have HS3 := hidden hs34
  have HBY3 := hidden hb34
  clear hi34 hz34 hs34 hb34
  obtain ⟨s0, HS0⟩ : ∃ s, Hid (initW N = s) := ⟨_, rfl⟩
  have HS0r : Hid (s0.r = initR N) := by show _ = _; rw [← HS0.out]; rfl
  have HS0m : Hid (s0.m = initM N) := by show _ = _; rw [← HS0.out]; rfl
  rw [HS0.out] at HSO ⊢
  have hmkb : i34.bytes * trs.length ≤ 281474976710656 := by rw [HBY3.out]; omega
  have hmx : trs.length ≤ maxLen := by simp only [maxLen]; omega
  unfold NetS.cells at *
  go_enter Try.func22, Try.ntmps22
  go_upto_region 1 with fail
  generalize hW : World.alloc w _ = W
  have HB : Hid (Below w.heap.size w W) := by rw [← hW]; exact (Below.refl _ _).alloc (Nat.le_refl _) _
  have QN : Hid (∀ j, W.cell? ⟨w.heap.size, j, none⟩ = (#[.slice S.a0 N.ins.length S.c0, .slice S.a1 N.nodes.length S.c1, .slice S.a2 N.regs.length S.c2, .slice S.a3 N.mems.length S.c3, .slice S.a4 N.wrs.length S.c4, .slice S.a5 N.outs.length S.c5] : Array Value)[j]?) := by rw [← hW]; intro j; simp
  have hN : w.heap.size < W.heap.size := by rw [← hW]; simp
  clear hW
  have q0 : W.cell? ⟨w.heap.size, 0, none⟩ = some (.slice S.a0 N.ins.length S.c0) := QN.out 0
  have q1 : W.cell? ⟨w.heap.size, 1, none⟩ = some (.slice S.a1 N.nodes.length S.c1) := QN.out 1
  have q2 : W.cell? ⟨w.heap.size, 2, none⟩ = some (.slice S.a2 N.regs.length S.c2) := QN.out 2
  have q3 : W.cell? ⟨w.heap.size, 3, none⟩ = some (.slice S.a3 N.mems.length S.c3) := QN.out 3
  have q4 : W.cell? ⟨w.heap.size, 4, none⟩ = some (.slice S.a4 N.wrs.length S.c4) := QN.out 4
  have q5 : W.cell? ⟨w.heap.size, 5, none⟩ = some (.slice S.a5 N.outs.length S.c5) := QN.out 5
  go_wp2_with fail
  go_at_call 5
  refine (VL.out _ HB.out).mono ?_
  rintro e w1 ⟨rfl, hb1⟩
  have HB1 := hidden (HB.out.trans (hb1.mono HB.out.size))
  have HBX1 : Hid (∀ j, w1.cell? ⟨w.heap.size, j, none⟩ = (NetS.cells S N)[j]?) := fun j => (hb1.cell (p := ⟨w.heap.size, j, none⟩) hN).trans (QN.out j)
  have hN1 : w.heap.size < w1.heap.size := Nat.lt_of_lt_of_le hN hb1.size
  clear hb1 q0 q1 q2 q3 q4 q5 VL QN
  go_wp2_with fail
  go_at_call 32
  refine (HSTA.out _ _ HB1.out hN1 HBX1.out).mono ?_
  rintro e w2 ⟨mk, vb, rg, wb, ms, rfl, hm2, hap, hli, hmk2, hwb2, hb2⟩
  have HM2 := hidden hm2
  have HAP := hidden hap
  have HLI := hidden hli
  have HB2 := hidden (HB1.out.trans (hb2.mono HB1.out.size))
  have h2s := hb2.size
  clear hm2 hap hli hb2 HSTA HBX1
  have tok : True := trivial
  go_upto_region 5 with (have _t := tok; at_make; (refine wpList_make_full _ rfl (.tmp 13) (.tmp 13) 31 rfl w2.heap.size 34 i34 _ 1 Try.underlying31 HI3.out HZ3.out HS3.out .i64 .i64 (trs.length : Int) (trs.length : Int) trs.length rfl rfl rfl rfl hmkb hmx (Nat.le_refl _) ?_; intro V hown1 hgrow1; have HBV := hidden (none_below hgrow1); have HOM := hidden hown1; clear tok hown1 hgrow1))
  have HBV2 : Hid (Below w.heap.size w V) := HB2.out.trans (HBV.out.mono HB2.out.size)
  have HMV := hidden (HM2.out.to HBV.out)
  obtain ⟨rr, hrr⟩ : ∃ r, r = w2.heap.size := ⟨_, rfl⟩
  have HO0 : Hid (V.ownsRow rr 34 1 (.slice (some ⟨rr, 0, none⟩) trs.length trs.length) trs.length (([] : List RW).map RW.v ++ List.replicate (trs.length - 0) (Value.slice none 0 0))) := by
    have := HOM.out
    rw [made_nil, ← hrr] at this
    exact this
  rw [← hrr]
  have hrV : rr < V.heap.size := (HO0.out.lt rr rfl).2
  have hvl2 := lt_of_row HM2.out.vrow
  have hrl2 := lt_of_row HM2.out.rrow
  have hwl2 := lt_of_row HM2.out.wrow
  have hml2 := HM2.out.mlt
  have hvV : vb ≠ rr := by omega
  have hrR : rg ≠ rr := by omega
  have hwR : wb ≠ rr := by omega
  have hmR : mk ≠ rr := by omega
  have hnR : w.heap.size ≠ rr := by omega
  have hvw := HAP.out.v
  have hrw := HAP.out.r
  obtain ⟨bs, HBS⟩ : ∃ bs, Hid (ms.map MB.b = bs) := ⟨_, rfl⟩
  have HBL : Hid (∀ b, b ∈ bs → w1.heap.size ≤ b ∧ b < w2.heap.size) := by
    intro b hb
    rw [← HBS.out] at hb
    obtain ⟨m, hm, rfl⟩ := List.mem_map.1 hb
    exact ((HM2.out.mem.own m hm).lt m.b rfl)
  obtain ⟨tb, HTB⟩ : ∃ l, Hid (vb :: rg :: rr :: bs = l) := ⟨_, rfl⟩
  have HTL : Hid (∀ b, b ∈ tb → w1.heap.size ≤ b ∧ b < V.heap.size) := by
    intro b hb
    rw [← HTB.out] at hb
    have hv2 := HBV.out.size
    rcases List.mem_cons.1 hb with rfl | hb
    · omega
    · rcases List.mem_cons.1 hb with rfl | hb
      · omega
      · rcases List.mem_cons.1 hb with rfl | hb
        · omega
        · have := HBL.out b hb; omega
  have hv2 := HBV.out.size
  have h2rr : w2.heap.size ≤ rr := by omega
  have hrr2 : rr ≤ w2.heap.size := by omega
  clear HOM HM2 HBV HB2 hrr
  go_wp2_with fail
  go_loopw [17] (fun i' w' => ∃ (k : Nat) (rows : List RW) (vals : List Nat) (msk : List MB), k ≤ trs.length ∧ i' = .int .i64 k ∧ Hid (rows.length = k) ∧ Hid (vals.length = N.nodes.length) ∧ Hid (msk.map MB.b = ms.map MB.b) ∧ Hid (msk.map MB.l = (stW N s0 ((trs.take k).map MD.l)).m) ∧ Hid (WmAt w1.heap.size w' mk w.heap.size vb rg wb S N vals (stW N s0 ((trs.take k).map MD.l)).r msk) ∧ Hid (w'.ownsRow rr 34 1 (.slice (some ⟨rr, 0, none⟩) trs.length trs.length) trs.length (rows.map RW.v ++ List.replicate (trs.length - k) (Value.slice none 0 0))) ∧ Hid (rows.map RW.l = runW N ((trs.take k).map MD.l) s0) ∧ Hid (∀ q, q ∈ rows → US w' q.v q.l ∧ ∀ x, q.v.ownBlock = some x → V.heap.size ≤ x) ∧ Hid (Oth tb V w')) (fun i' _ => trs.length - (intOf i').toNat)
  case atStart => exact ⟨0, [], _, ms, Nat.zero_le _, rfl, rfl, List.length_replicate, rfl, (by show _ = _; rw [show stW N s0 ((trs.take 0).map MD.l) = s0 from rfl, HS0m.out]; exact HLI.out), (by show WmAt _ _ _ _ _ _ _ _ _ _ _ _; rw [show stW N s0 ((trs.take 0).map MD.l) = s0 from rfl, HS0r.out]; exact HMV.out), HO0.out, rfl, fun q hq => (by simp at hq), Oth.refl _ _⟩
  case round =>
    obtain ⟨k, rows, vals, msk, hk, rfl, HRN, HVN, HKB, HKL, HKW, HO, HRUN, HRW, HOT⟩ := hrel
    have HBw : Hid (Below w.heap.size w wr) := HBV2.out.trans (HOT.out.below HBV2.out.size (fun b hb => by have := HTL.out b hb; omega))
    by_cases hlt : k < trs.length
    · obtain ⟨t, hz⟩ : ∃ t, trs[k]? = some t := ⟨trs[k], List.getElem?_eq_getElem hlt⟩
      obtain ⟨tbk, tq, ea, htb, htc⟩ := (HTR.out.to (HBw.out.mono hB)).row.el hz
      have c0 : wr.cell? ⟨tbk, tq + k, none⟩ = some (.slice t.a t.l.length t.c) := by have := htc 0 _ rfl; simpa using this
      subst ea
      have hltI : (k : Int) < (trs.length : Int) := by omega
      have e3 : IntKind.i64.wrap ((k : Int) + 1) = (k : Int) + 1 := wrapI _ (by omega) (by omega)
      obtain ⟨s, HSS⟩ : ∃ s, Hid (stW N s0 ((trs.take k).map MD.l) = s) := ⟨_, rfl⟩
      have HSK : Hid (SOk N s) := by rw [← HSS.out]; exact HSO.out _
      have HNS : Hid (stW N s0 ((trs.take (k + 1)).map MD.l) = stepN N t.l s) := by
        show _ = _
        rw [take_next _ k t hz, List.map_append, show [t].map MD.l = [t.l] from rfl, stW_snoc, HSS.out]
      have HNR : Hid (runW N ((trs.take (k + 1)).map MD.l) s0 = runW N ((trs.take k).map MD.l) s0 ++ [outsN N (valsN N t.l s)]) := by
        show _ = _
        rw [take_next _ k t hz, List.map_append, show [t].map MD.l = [t.l] from rfl, runW_snoc, HSS.out]
      have hkl := HKL.out
      have hkw := HKW.out
      rw [HSS.out] at hkl hkw
      have HKL2 := hidden hkl
      have HKW2 := hidden hkw
      have HAPk := hidden (HAP.out.same HKB.out)
      have htm := HTR.out.each t (List.mem_of_getElem? hz)
      have HWO : Hid (Calls Try.prog 33 #[.pointer (some ⟨mk, 0, none⟩), .slice t.a t.l.length t.c] wr fun e w' => (∃ v, e = .returned v) ∧ w'.heap[vb]? = some (.cells ((valsN N t.l s).map uV).toArray 33 (0, 0)) ∧ wr.grownBy w' (some vb)) := by
        have hst : StOk N s.r (msk.map MB.l) := by rw [hkl]; exact HSK.out
        have := workOut_any B w1.heap.size wr S N (HAT.out.to (HBw.out.mono hB)) HOK.out mk w.heap.size vb rg wb vals s.r msk hkw (HAPk.out.mono (by omega)) HVN.out hst t.l t.a t.c (htm.1.to (HBw.out.mono hB)) htm.2.1 htm.2.2
        rw [hkl] at this
        exact this
      obtain ⟨vs, HVS⟩ : ∃ vs, valsN N t.l s = vs := ⟨_, rfl⟩
      have HVL : Hid (vs.length = N.nodes.length) := by show _ = _; rw [← HVS]; exact vals_length _ _ _
      have HNS2 : Hid (stepN N t.l s = ⟨nextR N vs, N.wrs.foldl (wrL vs) s.m⟩) := by show _ = _; rw [← HVS]; rfl
      rw [HVS] at HWO HNR
      clear HVS hz htc hkl hkw HKL HKW htm
      generalize t.l.length = tl at *
      generalize t.a = tA at *
      generalize t.c = tC at *
      go_wp2_with fail
      go_at_call 33
      refine HWO.out.mono ?_
      rintro e w3 ⟨⟨vv, rfl⟩, hr3, hg3⟩
      have HM3 : Hid (WmAt w1.heap.size w3 mk w.heap.size vb rg wb S N vs s.r msk) := HKW2.out.vals HAPk.out hg3 (by rw [HVL.out, HVN.out]) hr3
      have HO3 := hidden (HO.out.kept hg3 (.inr (by show some rr ≠ some vb; intro e; cases e; exact hvV rfl)))
      have HRW3 : Hid (∀ q, q ∈ rows → US w3 q.v q.l ∧ ∀ x, q.v.ownBlock = some x → V.heap.size ≤ x) := fun q hq => ⟨(HRW.out q hq).1.kept hg3 (by intro x hx e; cases hx; have := (HRW.out q hq).2 _ e; omega), (HRW.out q hq).2⟩
      have HOT3 : Hid (Oth tb V w3) := HOT.out.grown hg3 (fun x hx => .inl (by cases hx; rw [← HTB.out]; exact List.mem_cons_self))
      have HB3 : Hid (Below w.heap.size w w3) := HBV2.out.trans (HOT3.out.below HBV2.out.size (fun b hb => by have := HTL.out b hb; omega))
      have h3V := HOT3.out.size
      have hw3 := HB3.out.size
      clear hr3 hg3 HWO HKW2 HO HRW HOT HBw c0 HVN
      have HTO : Hid (Calls Try.prog 34 #[.pointer (some ⟨mk, 0, none⟩)] w3 fun e w' => e = .returned (.slice (some ⟨w3.heap.size, 0, none⟩) N.outs.length N.outs.length) ∧ w'.ownsRow w3.heap.size 33 1 (.slice (some ⟨w3.heap.size, 0, none⟩) N.outs.length N.outs.length) N.outs.length ((outsN N vs).map uV) ∧ Below w3.heap.size w3 w') :=
        told_any w3 N mk w.heap.size HM3.out.mlt HM3.out.blt HM3.out.m0 (some ⟨vb, 0, none⟩) vs.length vs HM3.out.m1 (row_at HM3.out.vrow) S.a5 S.c5 (HM3.out.box 5) ((HAT.out.o.to (HB3.out.mono hB)).mono (by omega)) (fun a ha => by rw [HVL.out]; exact HP.out.out a ha) l5
      go_wp2_with fail
      go_at_call 34
      refine HTO.out.mono ?_
      rintro e w4 ⟨rfl, ho4, hb4⟩
      obtain ⟨nb, hnb⟩ : ∃ n, n = w3.heap.size := ⟨_, rfl⟩
      rw [← hnb] at ho4 ⊢
      have HM4 := hidden (HM3.out.to hb4)
      have HO4 := hidden (own_below HO3.out hb4)
      have HN4 : Hid (US w4 (.slice (some ⟨nb, 0, none⟩) N.outs.length N.outs.length) (outsN N vs)) := US.of ho4
      have HRW4 : Hid (∀ q, q ∈ rows ++ [RW.mk (.slice (some ⟨nb, 0, none⟩) N.outs.length N.outs.length) (outsN N vs)] → US w4 q.v q.l ∧ ∀ x, q.v.ownBlock = some x → V.heap.size ≤ x) := by
        intro q hq
        rcases List.mem_append.1 hq with hq | hq
        · exact ⟨(HRW3.out q hq).1.to hb4, (HRW3.out q hq).2⟩
        · rw [List.mem_singleton.1 hq]
          refine ⟨HN4.out, fun x hx => ?_⟩
          have : nb = x := by cases hx; rfl
          omega
      have HOT4 : Hid (Oth tb V w4) := HOT3.out.grown (grown_of_below hb4) (by intro x hx; cases hx)
      clear ho4 hb4 HTO HM3 HO3 HRW3 HOT3 h3V hnb
      have hcl4 := HO4.out.cellAt k (by omega)
      have hfz4 := HO4.out.frozenAt k
      have hold4 : ∃ old, w4.cell? ⟨rr, k, none⟩ = some old := by
        rw [hcl4]
        have hL : k < (rows.map RW.v ++ List.replicate (trs.length - k) (Value.slice none 0 0)).length := by simp; have := HRN.out; omega
        exact ⟨_, List.getElem?_eq_getElem hL⟩
      obtain ⟨old4, hold4⟩ := hold4
      have HST4 := hidden (HO4.out.stored k (.slice (some ⟨nb, 0, none⟩) N.outs.length N.outs.length))
      have HNX : Hid ((rows.map RW.v ++ List.replicate (trs.length - k) (Value.slice none 0 0)).set k (.slice (some ⟨nb, 0, none⟩) N.outs.length N.outs.length) = (rows ++ [RW.mk (.slice (some ⟨nb, 0, none⟩) N.outs.length N.outs.length) (outsN N vs)]).map RW.v ++ List.replicate (trs.length - (k + 1)) (Value.slice none 0 0)) := by
        show _ = _
        have hkl : (rows.map RW.v).length = k := by rw [List.length_map]; exact HRN.out
        rw [show trs.length - k = (trs.length - (k + 1)) + 1 by omega, List.replicate_succ]
        have := set_mid (rows.map RW.v) (Value.slice none 0 0) (.slice (some ⟨nb, 0, none⟩) N.outs.length N.outs.length) (List.replicate (trs.length - (k + 1)) (Value.slice none 0 0))
        rw [hkl] at this
        rw [this]; simp
      clear hcl4 HO4
      go_wp2_with fail
      generalize hW5 : World.setCell w4 _ _ = w5
      rw [hW5] at HST4
      have HG5 := hidden HST4.out.2
      have HOW5 : Hid (Oth [rr] w4 w5) := Oth.of_grown HG5.out List.mem_cons_self
      have HM5 : Hid (WmAt w1.heap.size w5 mk w.heap.size vb rg wb S N vs s.r msk) := HM4.out.oth HOW5.out (fun e => hmR (List.mem_singleton.1 e)) (fun e => hnR (List.mem_singleton.1 e)) (fun e => hvV (List.mem_singleton.1 e)) (fun e => hrR (List.mem_singleton.1 e)) (fun e => hwR (List.mem_singleton.1 e)) (fun m hm e => by
        have h1 := List.mem_singleton.1 e
        have h2 := HBL.out m.b (by rw [← HBS.out, ← HKB.out]; exact List.mem_map.2 ⟨m, hm, rfl⟩)
        omega)
      have HO5 : Hid (w5.ownsRow rr 34 1 (.slice (some ⟨rr, 0, none⟩) trs.length trs.length) trs.length ((rows ++ [RW.mk (.slice (some ⟨nb, 0, none⟩) N.outs.length N.outs.length) (outsN N vs)]).map RW.v ++ List.replicate (trs.length - (k + 1)) (Value.slice none 0 0))) := by
        have := HST4.out.1
        rw [HNX.out] at this
        exact this
      have HRW5 : Hid (∀ q, q ∈ rows ++ [RW.mk (.slice (some ⟨nb, 0, none⟩) N.outs.length N.outs.length) (outsN N vs)] → US w5 q.v q.l ∧ ∀ x, q.v.ownBlock = some x → V.heap.size ≤ x) := fun q hq => ⟨(HRW4.out q hq).1.kept HG5.out (by intro x hx e; cases hx; have := (HRW4.out q hq).2 _ e; omega), (HRW4.out q hq).2⟩
      have HOT5 : Hid (Oth tb V w5) := HOT4.out.grown HG5.out (fun x hx => .inl (by cases hx; rw [← HTB.out]; simp))
      have HB5 : Hid (Below w.heap.size w w5) := HBV2.out.trans (HOT5.out.below HBV2.out.size (fun b hb => by have := HTL.out b hb; omega))
      have h5V := HOT5.out.size
      clear hW5 HST4 HG5 HM4 HRW4 HOT4 HN4 hold4 hfz4 HNX HB3 hw3 HOW5
      have hmkl : msk.length = N.mems.length := by have := congrArg List.length HKL2.out; rw [List.length_map] at this; rw [this]; exact HSK.out.ml
      have HCK : Hid (Calls Try.prog 35 #[.pointer (some ⟨mk, 0, none⟩)] w5 fun e w' => (∃ v, e = .returned v) ∧ w'.ownsRow w1.heap.size 33 1 (.slice (some ⟨rg, 0, none⟩) N.regs.length N.regs.length) N.regs.length ((N.regs.map fun z => vAt vs z.next).map uV) ∧ MsIn w1.heap.size w' (N.wrs.foldl (wrStep vs) msk) ∧ Oth (rg :: bs) w5 w') := by
        have hnot : ∀ x, (x < w1.heap.size ∨ w2.heap.size ≤ x) → x ∉ bs := fun x hx hb => by have := HBL.out x hb; omega
        have hmem : ∀ x, x ∈ bs → ∃ m, m ∈ msk ∧ m.b = x := fun x hx => by
          rw [← HBS.out, ← HKB.out] at hx
          obtain ⟨m, hm, rfl⟩ := List.mem_map.1 hx
          exact ⟨m, hm, rfl⟩
        refine clock_any w5 N w1.heap.size mk w.heap.size (by omega) HM5.out.mlt HM5.out.m0 hN1 S.a2 S.c2 (HM5.out.box 2) ((HAT.out.r.to (HB5.out.mono hB)).mono (by omega)) S.a4 S.c4 (HM5.out.box 4) ((HAT.out.wr.to (HB5.out.mono hB)).mono (by omega)) rg N.regs.length hrw (fun e => HAPk.out.mr e.symm) HM5.out.m2 s.r HSK.out.rl (own_of_row HM5.out.rrow hrw (by rw [List.length_map]; exact HSK.out.rl) (by simp only [maxLen]; omega)) vs vb 0 vs.length HM5.out.m1 (lt_of_row HM5.out.vrow) HAPk.out.rv (fun i x hx => by rw [Nat.zero_add]; exact row_cell HM5.out.vrow hx) msk bs (fun b hb => (HBL.out b hb).1) (by show _ = _; rw [HKB.out, HBS.out]) HM5.out.mem (fun hb => by obtain ⟨m, hm, e⟩ := hmem _ hb; exact HAPk.out.msm m hm e) (fun hb => by obtain ⟨m, hm, e⟩ := hmem _ hb; exact HAPk.out.msr m hm e) (fun hb => by obtain ⟨m, hm, e⟩ := hmem _ hb; exact HAPk.out.msv m hm e) wb 0 N.mems.length (by rw [hmkl]; exact HM5.out.m3) (lt_of_row HM5.out.wrow) (fun hb => by obtain ⟨m, hm, e⟩ := hmem _ hb; exact HAPk.out.msw m hm e) (fun e => HAPk.out.wr e.symm) (fun i m hm => by
          rw [Nat.zero_add, cell_of_row w5 wb i _ _ _ HM5.out.wrow]
          simp [hm]) (fun m hm => ?_) (fun z hz => by
          have := wide_some (HP.out.next z hz)
          rw [HVL.out]; exact ⟨this.1, this.2.1⟩) l2 (fun z hz => ?_) l4
        · obtain ⟨i, hi, rfl⟩ := List.getElem_of_mem hm
          have h1 : s.m[i]? = some msk[i].l := by rw [← HKL2.out, List.getElem?_map, List.getElem?_eq_getElem hi]; rfl
          obtain ⟨z, hzz⟩ : ∃ z, N.mems[i]? = some z := ⟨N.mems[i]'(by omega), List.getElem?_eq_getElem (by omega)⟩
          have h2 := (HSK.out.mm i _ z h1 hzz).1
          have h3 := (HP.out.mem z (List.mem_of_getElem? hzz)).2
          omega
        · have h1 := HP.out.wr z hz
          have h2 := wide_some h1.2.1
          have h3 := wide_some h1.2.2
          rw [HVL.out, hmkl]
          exact ⟨h1.1.1, h1.1.2.1, h2.1, h2.2.1, h1.1.2.2.1, h1.1.2.2.2, h3.1, h3.2.1⟩
      go_at_call 35
      refine HCK.out.mono ?_
      rintro e w6 ⟨⟨vv2, rfl⟩, hor6, hmi6, hoth6⟩
      have hmem : ∀ x, x ∈ bs → ∃ m, m ∈ msk ∧ m.b = x := fun x hx => by
        rw [← HBS.out, ← HKB.out] at hx
        obtain ⟨m, hm, rfl⟩ := List.mem_map.1 hx
        exact ⟨m, hm, rfl⟩
      have HM6 : Hid (WmAt w1.heap.size w6 mk w.heap.size vb rg wb S N vs (nextR N vs) (N.wrs.foldl (wrStep vs) msk)) := by
        have n : ∀ x, x ≠ rg → x ∉ bs → x ∉ rg :: bs := fun x h1 h2 hm => by
          rcases List.mem_cons.1 hm with h | h
          · exact h1 h
          · exact h2 h
        have nm := n mk HAPk.out.mr (fun hb => by obtain ⟨m, hm, e⟩ := hmem _ hb; exact HAPk.out.msm m hm e)
        have nn := n w.heap.size HAPk.out.nr (fun hb => by obtain ⟨m, hm, e⟩ := hmem _ hb; exact HAPk.out.msn m hm e)
        have nv := n vb (fun e => HAPk.out.rv e.symm) (fun hb => by obtain ⟨m, hm, e⟩ := hmem _ hb; exact HAPk.out.msv m hm e)
        have nw := n wb HAPk.out.wr (fun hb => by obtain ⟨m, hm, e⟩ := hmem _ hb; exact HAPk.out.msw m hm e)
        have h := HM5.out
        exact ⟨(hoth6.cell (p := ⟨mk, 0, none⟩) h.mlt nm).trans h.m0, (hoth6.cell (p := ⟨mk, 1, none⟩) h.mlt nm).trans h.m1, (hoth6.cell (p := ⟨mk, 2, none⟩) h.mlt nm).trans h.m2, (hoth6.cell (p := ⟨mk, 3, none⟩) h.mlt nm).trans h.m3, Nat.lt_of_lt_of_le h.mlt hoth6.size, Nat.lt_of_lt_of_le h.blt hoth6.size, fun j => (hoth6.cell (p := ⟨w.heap.size, j, none⟩) h.blt nn).trans (h.box j), (hoth6.block vb (lt_of_row h.vrow) nv).trans h.vrow, row_of_own hor6, by rw [val_same]; exact (hoth6.block wb (lt_of_row h.wrow) nw).trans h.wrow, hmi6⟩
      have hrr6 : rr ∉ rg :: bs := fun hm => by
        rcases List.mem_cons.1 hm with h | h
        · exact hrR h.symm
        · have := HBL.out rr h; omega
      have HO6 := hidden (own_oth HO5.out hoth6 (fun x hx => by cases hx; exact hrr6))
      have HRW6 : Hid (∀ q, q ∈ rows ++ [RW.mk (.slice (some ⟨nb, 0, none⟩) N.outs.length N.outs.length) (outsN N vs)] → US w6 q.v q.l ∧ ∀ x, q.v.ownBlock = some x → V.heap.size ≤ x) := fun q hq => ⟨(HRW5.out q hq).1.oth hoth6 (fun x hx hb => by
        have h1 := (HRW5.out q hq).2 x hx
        rcases List.mem_cons.1 hb with h | h
        · omega
        · have := HBL.out x h; omega), (HRW5.out q hq).2⟩
      have HOT6 : Hid (Oth tb V w6) := HOT5.out.trans (hoth6.wide (fun x hx => by
        rw [← HTB.out]
        rcases List.mem_cons.1 hx with h | h
        · rw [h]; simp
        · simp [h]))
      have HKB6 : Hid ((N.wrs.foldl (wrStep vs) msk).map MB.b = ms.map MB.b) := (fold_same vs N.wrs msk).2.trans HKB.out
      have HKL6 : Hid ((N.wrs.foldl (wrStep vs) msk).map MB.l = (stW N s0 ((trs.take (k + 1)).map MD.l)).m) := by
        show _ = _
        rw [HNS.out, HNS2.out, fold_l, HKL2.out]
      have HKW6 : Hid (WmAt w1.heap.size w6 mk w.heap.size vb rg wb S N vs (stW N s0 ((trs.take (k + 1)).map MD.l)).r (N.wrs.foldl (wrStep vs) msk)) := by
        show WmAt _ _ _ _ _ _ _ _ _ _ _ _
        rw [HNS.out, HNS2.out]; exact HM6.out
      have HRUN6 : Hid ((rows ++ [RW.mk (.slice (some ⟨nb, 0, none⟩) N.outs.length N.outs.length) (outsN N vs)]).map RW.l = runW N ((trs.take (k + 1)).map MD.l) s0) := by
        show _ = _
        rw [List.map_append, HNR.out, HRUN.out]; rfl
      have HN6 : Hid ((rows ++ [RW.mk (.slice (some ⟨nb, 0, none⟩) N.outs.length N.outs.length) (outsN N vs)]).length = k + 1) := by show _ = _; rw [List.length_append, HRN.out]; rfl
      clear hor6 hmi6 hoth6 HCK HM5 HM6 HO5 HRW5 HOT5 HB5 HRUN HNR HNS HNS2 HRN HKB HKL2 HSK HSS HAPk hmem hrr6 hmkl
      go_wp2
      go_roundw
      case measure => simp [intOf]; omega
      case rel => exact ⟨k + 1, _, vs, _, by omega, by simp, HN6.out, HVL.out, HKB6.out, HKL6.out, HKW6.out, HO6.out, HRUN6.out, HRW6.out, HOT6.out⟩
    · have hge : ¬ ((k : Int) < (trs.length : Int)) := by omega
      have HO7 : Hid (wr.ownsRow rr 34 1 (.slice (some ⟨rr, 0, none⟩) trs.length trs.length) trs.length (rows.map RW.v)) := by
        have := HO.out
        rw [show trs.length - k = 0 by omega] at this
        show World.ownsRow _ _ _ _ _ _ _
        simpa using this
      have HL7 : Hid (rows.map RW.l = runW N (trs.map MD.l) s0) := by
        have := HRUN.out
        rwa [List.take_of_length_le (by omega)] at this
      clear HO HRUN
      go_wp2
      go_ret
      exact ⟨_, rfl, rows, own_mono HO7.out (show w.heap.size ≤ rr by omega), HL7.out, fun r hr => (HRW.out r hr).1, HBw.out⟩

end Go.Proofs.Ytlkhmcajedjojaa
