import Derived.Test.YtlaljeobdddegaaMrB
namespace Go.Proofs.Ytlaljeobdddegaa
open Go.RowKit Mp

theorem full_blk {w : World} {B g n sz : Nat} {e : TypeId} {xs : List Value} (h : w.ownsRow B e sz (.slice (some ⟨g, 0, none⟩) n n) n xs) : Blk w g e xs.toArray := by
  rcases h.2 with ⟨h', _⟩ | ⟨g', cap', cur, h', _, hh, _, _, hcs, htake⟩
  · simp at h'
  · simp only [Value.slice.injEq, Option.some.injEq, Addr.mk.injEq, and_true, true_and] at h'
    obtain ⟨rfl, rfl⟩ := h'
    show _ = _
    rw [hh]
    rw [List.take_of_length_le (by rw [Array.length_toList, hcs]; exact Nat.le_refl _)] at htake
    rw [← htake]
theorem made_i64 (n : Nat) : (madeCells (Value.int .i64 0).cells (n * 1)).toList = tabL n fun _ => Value.int .i64 0 := by
  rw [Nat.mul_one]
  apply List.ext_getElem?
  intro i
  by_cases h : i < n
  · rw [tabL_get h]; simp [madeCells, Value.cells, h, Nat.mod_one]
  · rw [List.getElem?_eq_none (by simp [madeCells]; omega), List.getElem?_eq_none (by rw [tabL_len]; omega)]
theorem newL {w : World} {cc : Nat} (hcc : cc ≤ 60000) : ∃ w', (Instr.makeSlice 24 (.int .i64 (cc : Int)) (.int .i64 (cc : Int))).run Try.prog w = .ok (.slice (some ⟨w.heap.size, 0, none⟩) cc cc) w' ∧ Blk w' w.heap.size 3 (tabL cc fun _ => .int .i64 0).toArray ∧ Below w.heap.size w w' := by
  obtain ⟨ib, hib, hzb, hsb, hbb⟩ := info_n
  obtain ⟨w', hr, h3, h4⟩ := run_make_full (P := Try.prog) w w.heap.size 24 3 ib (.int .i64 0) 1 Try.underlying24 hib hzb hsb .i64 .i64 cc (by rw [hbb]; omega) (by simp only [maxLen]; omega) (Nat.le_refl _)
  refine ⟨w', hr, ?_, none_below h4⟩
  have := full_blk h3
  rw [made_i64] at this
  exact this
theorem upd_int (f : Nat → Int) (v : Nat) (z : Int) : upd (fun v => Value.int .i64 (f v)) v (.int .i64 z) = fun u => Value.int .i64 (upd f v z u) := by
  funext u; unfold upd; split <;> rfl
def AnyB (w : World) (b N : Nat) : Prop := ∃ f : Nat → Int, Blk w b 3 (tabL N fun v => .int .i64 (f v)).toArray
theorem AnyB.set {w : World} {b N : Nat} (h : AnyB w b N) (v : Nat) (z : Int) : AnyB (w.setCell ⟨b, v, none⟩ (.int .i64 z)) b N := by
  obtain ⟨f, hf⟩ := h
  have := hf.set v (.int .i64 z)
  rw [tab_set, upd_int] at this
  exact ⟨_, this⟩
theorem AnyB.to {w w' : World} {b N : Nat} (h : AnyB w b N) (hb : Bl w w') : AnyB w' b N := by
  obtain ⟨f, hf⟩ := h
  exact ⟨f, hf.below hb⟩
theorem AnyB.cell {w : World} {b N : Nat} (h : AnyB w b N) {v : Nat} (hv : v < N) : ∃ z : Int, w.cell? ⟨b, v, none⟩ = some (.int .i64 z) ∧ w.frozen? ⟨b, v, none⟩ = false := by
  obtain ⟨f, hf⟩ := h
  exact ⟨f v, hf.cell (tab_get hv), hf.frozen v⟩
theorem AnyB.lt {w : World} {b N : Nat} (h : AnyB w b N) : b < w.heap.size := by
  obtain ⟨f, hf⟩ := h
  exact hf.lt
theorem AnyB.but {w w' : World} {b g N : Nat} (h : AnyB w b N) (hb : But g w w') (hne : b ≠ g) : AnyB w' b N := by
  obtain ⟨f, hf⟩ := h
  exact ⟨f, hb.blk hf hne⟩
abbrev nilV : Value := .slice none 0 0
set_option maxRecDepth 100000 in
set_option maxHeartbeats 8000000 in
theorem price_any (C0 : Nat) (w : World) (cb fb ub N F gb : Nat) (U : Nat → Nat) (SF : FnS) (Cs : List (List Ct)) (S : GrS) (G : GrD) (ni n : Nat) (da : Option Addr) (dc : Nat)
    (hbk : Blk w cb 89 #[.pointer (some ⟨fb, 0, none⟩), .int .i64 (F : Nat), .slice none 0 0, .slice (some ⟨ub, 0, none⟩) N N, .slice none 0 0, .slice none 0 0, .slice none 0 0, .slice none 0 0])
    (hun : Blk w ub 3 (tabL N fun v => .int .i64 (U v : Nat)).toArray) (hcu : cb ≠ ub) (hC : C0 ≤ cb ∧ C0 ≤ ub) (hfb : SF.fb = fb) (hlow : FnLow C0 SF) (hfr : FinR w SF Cs) (hff : FinF Cs) (hN : N = Cs.length) (hdc : w.cell? ⟨fb, 2, none⟩ = some (.slice da N dc)) (hg : GIn C0 w gb S G) (hF : FineG G ni n) (hn : n = N) (hFF : F = firstN G) (h2 : ∀ v, F ≤ v → v < N → 2 ≤ (Cs.getD v []).length) :
    Calls Try.prog 40 #[.pointer (some ⟨cb, 0, none⟩), .pointer (some ⟨gb, 0, none⟩)] w fun e w' => ∃ pb : Nat, (∃ x, e = .returned x) ∧ w.heap.size ≤ pb ∧ Hid (ChAt w' ⟨cb, fb, pb, ub, N, F⟩ U (.slice none 0 0) (.slice none 0 0) (.slice none 0 0) (.slice none 0 0)) ∧ Hid (Below C0 w w') := by
  have hfC : fb < C0 := by rw [← hfb]; exact hlow.f
  have hCw : C0 ≤ w.heap.size := hg.le
  have HFR : Hid (∀ u : World, Below C0 w u → FinR u SF Cs) := fun u hu => hfr.low hlow hu
  have HGI : Hid (∀ u : World, Below C0 w u → GIn C0 u gb S G) := fun u hu => hg.to hu
  have HDC : Hid (∀ u : World, Below C0 w u → u.cell? ⟨fb, 2, none⟩ = some (.slice da N dc)) := fun u hu => (hu.cell (p := ⟨fb, 2, none⟩) hfC).trans hdc
  have HBC : Hid (∀ u : World, Bl w u → Below C0 w u) := fun u hu => hu.mono hCw
  have HBK := hidden hbk
  have HUN := hidden hun
  have HFI := hidden hF
  have HFF := hidden hff
  have HNN := hidden hN
  have HNE2 := hidden h2
  have HFB := hidden hfb
  have hN6 : N ≤ 60000 := by have := hF.le; omega
  have hFN : F ≤ N := by have := hF.all; omega
  have HAN : Hid (∀ (k : Nat) (d : AndD), G.ands[k]? = some d → (0 ≤ d.x ∧ d.x < 2 * (N : Int)) ∧ (0 ≤ d.y ∧ d.y < 2 * (N : Int))) := fun k d hd => by
    have h1 := hF.ands k d hd
    have h3 := (List.getElem?_eq_some_iff.1 hd).1
    have h4 := hF.all
    omega
  obtain ⟨a2, Ea2⟩ := exh S.a2
  obtain ⟨na, Ena⟩ := exh G.ands.length
  obtain ⟨sb, Esb⟩ := exh w.heap.size
  have hna : na ≤ 60000 := by have := hF.all; have := hF.le; have := Ena.out; omega
  have HRW : Hid (∀ u : World, Bl w u → ∀ (k : Nat) (d : AndD), G.ands[k]? = some d → ∃ b o, a2 = some ⟨b, o, none⟩ ∧ u.cell? ⟨b, o + k * 2, none⟩ = some (.int .i64 d.x) ∧ u.cell? ⟨b, o + k * 2 + 1, none⟩ = some (.int .i64 d.y)) := fun u hu k d hd => by
    obtain ⟨b, o, h1, _, h3⟩ := (HGI.out u (HBC.out u hu)).at_.a.el hd
    exact ⟨b, o, Ea2.out.trans h1, h3 0 _ rfl, h3 1 _ rfl⟩
  have z0 : w.cell? ⟨cb, 0, none⟩ = some (.pointer (some ⟨fb, 0, none⟩)) := hbk.cell (i := 0) rfl
  have hcw := hbk.lt
  have huw := hun.lt
  obtain ⟨w1, hr1, hk1, hb1⟩ := newL (w := w) hN6
  have HB1 := hidden hb1
  have c2 := (HGI.out w1 (HBC.out w1 hb1)).bx.c2
  rw [← Ena.out, ← Ea2.out] at c2
  rw [← Esb.out] at hr1 hk1 hcw huw
  have HS1 : Hid (AnyB w1 sb N) := ⟨fun _ => 0, hk1⟩
  have z2 := hdc
  clear hbk hun hfb hlow hfr hff hN hdc hg hF hn hFF h2 hk1 hb1
  go_enter Try.func40, Try.ntmps40
  go_wp2_with fail
  clear z0 z2 c2 hr1
  go_loopw [6, 25] (fun _ i' w' => ∃ k : Nat, k ≤ na ∧ i' = .int .i64 (k : Int) ∧ Hid (AnyB w' sb N) ∧ Hid (Bl w w')) (fun _ i' _ => na - (intOf i').toNat)
  case atStart => exact ⟨0, Nat.zero_le _, rfl, HS1.out, HB1.out⟩
  case round =>
    clear HS1 HB1
    obtain ⟨k, hk, rfl, HS, HB⟩ := hrel
    by_cases hlk : k < na
    · have hlkI : (k : Int) < (na : Int) := by omega
      obtain ⟨d, hd⟩ := getElem_lt (show k < G.ands.length by rw [← Ena.out]; exact hlk)
      obtain ⟨b, o, ea, cx, cy⟩ := HRW.out wr HB.out k d hd
      obtain ⟨⟨hx0, hx1⟩, hy0, hy1⟩ := HAN.out k d hd
      have e2 : IntKind.i64.wrap ((k : Int) + 1) = (k : Int) + 1 := wrapI _ (by omega) (by omega)
      obtain ⟨p, Ep⟩ := exh (d.x / 2).toNat
      obtain ⟨q, Eq⟩ := exh (d.y / 2).toNat
      have hxq : d.x.tdiv 2 = (p : Int) := by rw [Int.tdiv_eq_ediv_of_nonneg hx0, Ep.out]; omega
      have hyq : d.y.tdiv 2 = (q : Int) := by rw [Int.tdiv_eq_ediv_of_nonneg hy0, Eq.out]; omega
      have hpN : p < N := by have := Ep.out; omega
      have hqN : q < N := by have := Eq.out; omega
      have hpI : (p : Int) < (N : Int) := by omega
      have hqI : (q : Int) < (N : Int) := by omega
      obtain ⟨xb, Exb⟩ := exh wr.heap.size
      have hk1 := Blk.new wr 46 #[.int .i64 0, .int .i64 0]
      have HB1 : Hid (Bl wr (wr.alloc (.cells #[.int .i64 0, .int .i64 0] 46))) := (Below.refl _ _).alloc (Nat.le_refl _) _
      rw [← Exb.out] at hk1
      obtain ⟨u1, Eu1⟩ := exh (wr.alloc (.cells #[.int .i64 0, .int .i64 0] 46))
      rw [← Eu1.out] at hk1 HB1
      have q0 : u1.cell? ⟨xb, 0, none⟩ = some (.int .i64 0) := hk1.cell (i := 0) rfl
      have q1 : u1.cell? ⟨xb, 1, none⟩ = some (.int .i64 0) := hk1.cell (i := 1) rfl
      have f0 := hk1.frozen 0
      have f1 := hk1.frozen 1
      obtain ⟨u2, Eu2⟩ := exh ((u1.setCell ⟨xb, 0, none⟩ (.int .i64 d.x)).setCell ⟨xb, 1, none⟩ (.int .i64 d.y))
      have hk2 : Blk u2 xb 46 #[.int .i64 d.x, .int .i64 d.y] := by
        rw [Eu2.out]
        have h1 : Blk (u1.setCell ⟨xb, 0, none⟩ (.int .i64 d.x)) xb 46 #[.int .i64 d.x, .int .i64 0] := hk1.set 0 _
        exact h1.set 1 _
      have HB2 : Hid (Bl wr u2) := by
        rw [Eu2.out]
        exact HB1.out.trans (((But.set xb 0 u1 _).trans (But.set xb 1 _ _)).below (by rw [Exb.out]; exact Nat.le_refl _) HB1.out.size)
      have HS2 := hidden (HS.out.to HB2.out)
      have hsx : sb < xb := by rw [Exb.out]; exact HS.out.lt
      have r0 : u2.cell? ⟨xb, 0, none⟩ = some (.int .i64 d.x) := hk2.cell (i := 0) rfl
      obtain ⟨z, zc, zf⟩ := HS2.out.cell hpN
      obtain ⟨z1, Ez1⟩ := exh (IntKind.i64.wrap (z + 1))
      have ez1 := Ez1.out.symm
      obtain ⟨u3, Eu3⟩ := exh (u2.setCell ⟨sb, p, none⟩ (.int .i64 z1))
      have HS3 : Hid (AnyB u3 sb N) := by rw [Eu3.out]; exact HS2.out.set p z1
      have hbt : But sb u2 u3 := by rw [Eu3.out]; exact But.set _ _ _ _
      have r1 : u3.cell? ⟨xb, 1, none⟩ = some (.int .i64 d.y) := (hbt.blk hk2 (by omega)).cell (i := 1) rfl
      obtain ⟨y, yc, yf⟩ := HS3.out.cell hqN
      obtain ⟨y1, Ey1⟩ := exh (IntKind.i64.wrap (y + 1))
      have ey1 := Ey1.out.symm
      have HSF : Hid (AnyB (u3.setCell ⟨sb, q, none⟩ (.int .i64 y1)) sb N) := HS3.out.set q y1
      have HBF : Hid (Bl w (u3.setCell ⟨sb, q, none⟩ (.int .i64 y1))) := by
        have b1 : Bl w u2 := Bl.tr HB.out HB2.out
        exact b1.trans ((hbt.trans (But.set sb q u3 _)).below (by rw [Esb.out]; exact Nat.le_refl _) b1.size)
      subst ea
      clear hd hx0 hx1 hy0 hy1 hk1 hk2 HB1 HB2 HS HB HS2 HS3 hbt
      go_upto_region 4 with (rw [← Eu1.out, ← Exb.out])
      rw [← Eu2.out]
      clear q0 q1 f0 f1 cx cy
      go_upto_region 5 with fail
      rw [← Eu3.out]
      clear r0 zc zf
      go_wp2
      go_roundw
      case measure => simp [intOf]; omega
      case rel => exact ⟨k + 1, by omega, by simp, HSF.out, HBF.out⟩
    · have hge : ¬ (k : Int) < (na : Int) := by omega
      have z0 : wr.cell? ⟨cb, 0, none⟩ = some (.pointer (some ⟨fb, 0, none⟩)) := (HBK.out.below HB.out).cell (i := 0) rfl
      have zd := HDC.out wr (HBC.out wr HB.out)
      obtain ⟨w2, hr2, hk2, hb2⟩ := newL (w := wr) hN6
      obtain ⟨pb, Epb⟩ := exh wr.heap.size
      rw [← Epb.out] at hr2 hk2
      have HB2 : Hid (Bl w w2) := Bl.tr HB.out hb2
      have hbk2 := HBK.out.below HB2.out
      have y2 : w2.cell? ⟨cb, 2, none⟩ = some (.slice none 0 0) := hbk2.cell (i := 2) rfl
      have y2f := hbk2.frozen 2
      obtain ⟨w3, Ew3⟩ := exh (w2.setCell ⟨cb, 2, none⟩ (.slice (some ⟨pb, 0, none⟩) N N))
      have hsp : sb < pb := by rw [Epb.out]; exact HS.out.lt
      have hbt : But cb w2 w3 := by rw [Ew3.out]; exact But.set _ _ _ _
      have HCH : Hid (ChAt w3 ⟨cb, fb, pb, ub, N, F⟩ U (.slice none 0 0) (.slice none 0 0) (.slice none 0 0) (.slice none 0 0)) := ⟨by rw [Ew3.out]; exact hbk2.set 2 _, ⟨fun _ => 0, hbt.blk hk2 (show pb ≠ cb by omega)⟩, hbt.blk (HUN.out.below HB2.out) (Ne.symm hcu), ⟨hcu, by show pb ≠ ub; omega, by show cb ≠ pb; omega⟩⟩
      have HS3 : Hid (AnyB w3 sb N) := (HS.out.to hb2).but hbt (by omega)
      have HBF : Hid (Below C0 w w3) := (HBC.out w2 HB2.out).trans (hbt.below hC.1 (Nat.le_trans hCw HB2.out.size))
      have y1 : w3.cell? ⟨cb, 1, none⟩ = some (.int .i64 (F : Nat)) := HCH.out.bk.cell (i := 1) rfl
      have hpw : w.heap.size ≤ pb := by rw [Epb.out]; exact HB.out.size
      clear hk2 hb2 hbk2 hbt HB HS HB2 HRW HAN
      go_upto_region 8 with fail
      rw [← Ew3.out]
      clear z0 zd hr2 y2 y2f
      go_wp2_with fail
      clear y1
      go_loopw [7, 8, 9, 10] (fun v' _ _ _ w' => ∃ v : Nat, F ≤ v ∧ v ≤ N ∧ v' = .int .i64 (v : Int) ∧ Hid (ChAt w' ⟨cb, fb, pb, ub, N, F⟩ U (.slice none 0 0) (.slice none 0 0) (.slice none 0 0) (.slice none 0 0)) ∧ Hid (AnyB w' sb N) ∧ Hid (Below C0 w w')) (fun v' _ _ _ _ => N - (intOf v').toNat)
      case atStart => exact ⟨F, Nat.le_refl _, hFN, rfl, HCH.out, HS3.out, HBF.out⟩
      case round =>
        clear HCH HS3 HBF
        obtain ⟨v, hFv, hvN, rfl, HCH, HS, HB⟩ := hrel
        have k2 : wr.cell? ⟨cb, 2, none⟩ = some (.slice (some ⟨pb, 0, none⟩) N N) := HCH.out.bk.cell (i := 2) rfl
        have k0 : wr.cell? ⟨cb, 0, none⟩ = some (.pointer (some ⟨fb, 0, none⟩)) := HCH.out.bk.cell (i := 0) rfl
        by_cases hlv : v < N
        · have hlvI : (v : Int) < (N : Int) := by omega
          have hvl : v < Cs.length := by rw [← HNN.out]; exact hlv
          have h2l := HNE2.out v hFv hlv
          have hfw := HFF.out.few v hvl
          have AT := hidden (finAt_any wr SF Cs (HFR.out wr HB.out) v hvl (HFF.out.has v hvl))
          rw [HFB.out] at AT
          obtain ⟨n0, En0⟩ := exh (Cs.getD v []).length
          rw [← En0.out] at AT h2l hfw
          obtain ⟨n1, En1⟩ := exh (n0 - 1)
          have hn1 : n1 ≤ 257 := by have := En1.out; omega
          obtain ⟨so0, Eso0⟩ := exh (stO Cs v * 8)
          obtain ⟨so, Eso⟩ := exh (so0 + 8)
          obtain ⟨ab, Eab⟩ := exh SF.ab
          rw [← Eso0.out, ← Eab.out] at AT
          have RS : ∀ wx : World, (Instr.sliceAt 83 (.slice (some ⟨ab, so0, none⟩) n0 n0) (some (.int .i64 1)) none none).run Try.prog wx = .ok (.slice (some ⟨ab, so, none⟩) n1 n1) wx := fun wx => by
            have := cut_tl wx ab so0 n0 h2l
            rw [← En1.out, ← Eso.out] at this
            exact this
          have HCO : Hid (∀ (u : World) (i : Nat), Bl wr u → i < n1 → Calls Try.prog 59 #[.pointer (some ⟨cb, 0, none⟩), .pointer (some ⟨ab, so + i * 8, none⟩)] u fun e w' => (∃ z : Int, e = .returned (.int .i64 z)) ∧ Bl u w') := fun u i hu hi => by
            obtain ⟨c, hc⟩ := getElem_lt (show i + 1 < (Cs.getD v []).length by have := En1.out; have := En0.out; omega)
            have hub : Below C0 w u := HB.out.trans (hu.mono (Nat.le_trans hCw HB.out.size))
            obtain ⟨h1, h3⟩ := (HFR.out u hub).at hvl hc
            rw [show stO Cs v * 8 + (i + 1) * 8 = so + i * 8 by rw [Eso.out, Eso0.out]; omega, ← Eab.out] at h1
            obtain ⟨_, h4, h5⟩ := HFF.out.each v hvl c (List.mem_of_getElem? hc)
            exact costs_any u ⟨cb, fb, pb, ub, N, F⟩ U _ _ _ _ (HCH.out.to hu) _ _ c h1 h3 h5 (fun x hx => by show x < N; rw [HNN.out]; exact h4.2 x hx)
          have e5 : IntKind.i64.wrap ((v : Int) + 1) = (v : Int) + 1 := wrapI _ (by omega) (by omega)
          clear hfw
          go_wp2_with fail
          go_at_call 58
          refine AT.out.mono ?_
          rintro e v1 ⟨rfl, hv1⟩
          have HV1 := hidden hv1
          clear hv1 AT k0 k2
          go_wp2_with fail
          clear RS
          go_loopw [8, 10, 82] (fun l' _ i' w' => ∃ (k : Nat) (z : Int), k ≤ n1 ∧ i' = .int .i64 (k : Int) ∧ l' = .int .i64 z ∧ Hid (Bl wr w')) (fun _ _ i' _ => n1 - (intOf i').toNat)
          case atStart => exact ⟨0, 1099511627776, Nat.zero_le _, rfl, rfl, HV1.out⟩
          case round =>
            clear HV1
            obtain ⟨k, z, hk, rfl, rfl, HI⟩ := hrel
            by_cases hlk : k < n1
            · have hlkI : (k : Int) < (n1 : Int) := by omega
              have e2 : IntKind.i64.wrap ((k : Int) + 1) = (k : Int) + 1 := wrapI _ (by omega) (by omega)
              have CO := hidden (HCO.out wr k HI.out hlk)
              go_wp2_with fail
              go_at_call 59
              refine CO.out.mono ?_
              rintro e v2 ⟨⟨z2, rfl⟩, hv2⟩
              have HI2 := hidden (Bl.tr HI.out hv2)
              clear hv2 CO HI
              go_wp2
              go_roundw
              case measure => simp [intOf]; omega
              case rel => exact ⟨k + 1, _, by omega, by simp, rfl, HI2.out⟩
            · have hge2 : ¬ (k : Int) < (n1 : Int) := by omega
              have HCH2 := hidden (HCH.out.to HI.out)
              have HS2 := hidden (HS.out.to HI.out)
              have HBI : Hid (Below C0 w wr) := HB.out.trans (HI.out.mono (Nat.le_trans hCw HB.out.size))
              have k2 : wr.cell? ⟨cb, 2, none⟩ = some (.slice (some ⟨pb, 0, none⟩) N N) := HCH2.out.bk.cell (i := 2) rfl
              obtain ⟨y, yc, -⟩ := HS2.out.cell hlv
              obtain ⟨g, hpc, hpf⟩ : ∃ g : Int, wr.drew.cell? ⟨pb, v, none⟩ = some (.int .i64 g) ∧ wr.drew.frozen? ⟨pb, v, none⟩ = false := AnyB.cell (w := wr) (b := pb) HCH2.out.pr hlv
              obtain ⟨m, Em⟩ := exh (max 1 y)
              have em := Em.out.symm
              have hm : ¬ m = 0 := by have := Em.out; omega
              have HNX : Hid (∀ x : Int, ChAt (wr.setCell ⟨pb, v, none⟩ (.int .i64 x)).drew ⟨cb, fb, pb, ub, N, F⟩ U (.slice none 0 0) (.slice none 0 0) (.slice none 0 0) (.slice none 0 0) ∧ AnyB (wr.setCell ⟨pb, v, none⟩ (.int .i64 x)).drew sb N ∧ Below C0 w (wr.setCell ⟨pb, v, none⟩ (.int .i64 x)).drew) := fun x => by
                have hb := But.set pb v wr (.int .i64 x)
                have ne := HCH2.out.ne
                refine ⟨⟨hb.blk HCH2.out.bk ne.2.2, ?_, hb.blk HCH2.out.un (Ne.symm ne.2.1), ne⟩, AnyB.but (w' := (wr.setCell ⟨pb, v, none⟩ (.int .i64 x)).drew) HS2.out hb.drew (show sb ≠ pb by omega), Below.drew (HBI.out.trans (hb.below (show C0 ≤ pb by omega) (Nat.le_trans hCw HBI.out.size)))⟩
                exact AnyB.set (w := wr) (b := pb) HCH2.out.pr v x
              have hcp : cb ≠ pb := by omega
              have hsp2 : sb ≠ pb := by omega
              clear HI HCO
              go_wp2_with fail
              refine wp_region_noPanic ?_
              refine wp_region_held_drew (S := fun wz => wz.cell? ⟨cb, 2, none⟩ = some (.slice (some ⟨pb, 0, none⟩) N N) ∧ wz.cell? ⟨sb, v, none⟩ = some (.int .i64 y)) (by kernel_rfl) (by exact ⟨k2, yc⟩) (fun hHeld => ?_)
              refine tk 0 ?_
              refine tk 1 ?_
              refine tk 2 ?_
              refine tk 3 ?_
              refine tk 4 ?_
              refine tk 5 ?_
              refine tk 6 ?_
              refine tk 7 ?_
              refine tk 8 ?_
              refine tk 9 ?_
              refine tk 10 ?_
              refine tk 11 ?_
              refine tk 12 ?_
              refine rd 13 fun K hK => ?_
              (try simp only [gA, gB, gC]); go_simp
              refine wo hK ⟨(But.set pb v wr.drew _).cell hHeld.1 hcp, (But.set pb v wr.drew _).cell hHeld.2 hsp2⟩ fun hHeld3 => ?_
              clear hK K
              refine wpAnyH_done (by kernel_rfl) ?_ _
              refine NoPanic.normal ?_
              clear hHeld3 hHeld hpc hpf k2 yc
              go_wp2
              go_roundw
              case measure => simp [intOf]; omega
              case rel => exact ⟨v + 1, by omega, by omega, by simp, (HNX.out _).1, (HNX.out _).2.1, (HNX.out _).2.2⟩
        · have hge2 : ¬ (v : Int) < (N : Int) := by omega
          clear k0
          go_wp2
          go_end0
          first | exact ⟨pb, ⟨_, rfl⟩, hpw, HCH.out, HB.out⟩ | (refine ⟨⟨_, rfl⟩, pb, hpw, HCH.out, HB.out⟩)
end Go.Proofs.Ytlaljeobdddegaa
