import Derived.Test.YtefjicdhccfieaaJ01
import Derived.Test.YtefjicdhccfieaaJ28
set_option maxRecDepth 100000
set_option maxHeartbeats 16000000
namespace Go.Proofs.Ytefjicdhccfieaa
open Go.RowKit
theorem flat_one (cls : List CL) : (cls.map CL.cells).flatten = cls.map (fun t => Value.slice t.a t.l.length t.c) := by
 induction cls with
 | nil => rfl
 | cons t r ih => rw [List.map_cons, List.flatten_cons, ih]; rfl
theorem refuted_any (B : Nat) (w : World) (a : Option Addr) (cc : Nat) (v : Int) (cls : List CL) (h : ClAt B w a cls) (hB : B ≤ w.heap.size) (sa : Option Addr) (sc : Nat) (stp : List CL) (hst : ClAt B w sa stp) (htot : total cls + total stp ≤ 16777216) :
  Calls Try.prog 8 #[.agg #[.int .i64 v, .slice a cls.length cc], .slice sa stp.length sc] w fun e w' => RefPost w v (cls.map CL.l) (stp.map CL.l) e w' := by
 have HCL := hidden h
 have HST := hidden hst
 have hcn : cls.length ≤ 16777216 := by have := total_len cls; omega
 have hsn : stp.length ≤ 16777216 := by have := total_len stp; omega
 have hcs : cls.length + stp.length ≤ 16777216 := by have := total_len cls; have := total_len stp; omega
 obtain ⟨ic, hi, hz, hs, hbb⟩ := info_cl
 have HIC := hidden hi
 have HZC := hidden hz
 have HSC := hidden hs
 have HYC := hidden hbb
 clear h hst hi hz hs hbb
 go_enter Try.func8, Try.ntmps8
 go_upto_region 1 with fail
 generalize hW : World.alloc w _ = W
 obtain ⟨fx, hfx⟩ : ∃ x, x = w.heap.size := ⟨_, rfl⟩
 have HB1 : Hid (Below w.heap.size w W) := by rw [← hW]; exact (Below.refl _ _).alloc (Nat.le_refl _) _
 have HX : Hid (W.heap[fx]? = some (.cells #[.int .i64 v, .slice a cls.length cc] 24 (0, 0))) := by rw [← hW, hfx]; exact heap_new _ _
 have hfl : fx < W.heap.size := by rw [← hW, hfx]; simp
 rw [← hfx]
 have hfw : w.heap.size ≤ fx := by omega
 clear hW hfx
 have f0 : W.cell? ⟨fx, 0, none⟩ = some (.int .i64 v) := by simp [World.cell?, HX.out]
 have f1 : W.cell? ⟨fx, 1, none⟩ = some (.slice a cls.length cc) := by simp [World.cell?, HX.out]
 have CV := hidden (cnfValid_any B W a cc v cls (HCL.out.to (HB1.out.mono hB)) (Nat.le_trans hB HB1.out.size))
 obtain ⟨ok, HOKB⟩ : ∃ b, Hid (FmOk v cls = b) := ⟨_, rfl⟩
 rw [HOKB.out] at CV
 go_wp2_with fail
 go_at_call 20
 refine CV.out.mono ?_
 rintro e w1 ⟨rfl, hb1⟩
 have HB1W : Hid (Below W.heap.size W w1) := hb1
 have HBE : Hid (Below w.heap.size w w1) := HB1.out.trans (hb1.mono HB1.out.size)
 have hs1 := hb1.size
 clear hb1 CV f0 f1
 cases ok
 ·have HNO : Hid (¬ RefP v (cls.map CL.l) (stp.map CL.l)) := fun hh => by
   have := (fmOk_iff v cls).2 hh.1
   rw [HOKB.out] at this; cases this
  go_wp2
  go_ret
  exact ⟨false, rfl, ⟨fun h => (by cases h), fun h => absurd h HNO.out⟩, HBE.out⟩
 have hfm := (fmOk_iff v cls).1 HOKB.out
 obtain ⟨V, rfl⟩ : ∃ V : Nat, v = V := ⟨v.toNat, by omega⟩
 have hV : V ≤ 100000 := by omega
 have HLF : Hid (∀ d, d ∈ cls.map CL.l → ∀ m, m ∈ d → litOk (V : Int) m = true) := hfm.2.2
 clear hfm
 by_cases hs0 : stp.length = 0
 ·have hs0b : ((stp.length : Int) == 0) = true := by rw [beq_iff_eq]; omega
  have HNO : Hid (¬ RefP (V : Int) (cls.map CL.l) (stp.map CL.l)) := fun hh => by
   have h2 := hh.2.1
   rw [List.eq_nil_of_length_eq_zero hs0] at h2
   cases h2
  clear hs0
  go_wp2
  go_ret
  exact ⟨false, rfl, ⟨fun h => (by cases h), fun h => absurd h HNO.out⟩, HBE.out⟩
 have hs0b : ((stp.length : Int) == 0) = false := by rw [beq_eq_false_iff_ne]; omega
 obtain ⟨tl, htl⟩ := getElem_lt (show stp.length - 1 < stp.length by omega)
 obtain ⟨qb, qo, rfl, hqb, hqc⟩ := HST.out.row.el htl
 have cl0 := hqc 0 _ rfl
 simp only [Nat.mul_one, Nat.add_zero] at cl0
 have cl1 : w1.cell? ⟨qb, qo + (stp.length - 1), none⟩ = some (.slice tl.a tl.l.length tl.c) := (HBE.out.cell (p := ⟨qb, qo + (stp.length - 1), none⟩) (by show qb < _; omega)).trans cl0
 have ew : IntKind.i64.wrap ((stp.length : Int) - 1) = ((stp.length - 1 : Nat) : Int) := by rw [wrapI _ (by omega) (by omega)]; omega
 have hli : ((stp.length - 1 : Nat) : Int) < (stp.length : Int) := by omega
 have HLAST : Hid ((stp.map CL.l).getLast? = some tl.l) := by
  show _ = _
  rw [List.getLast?_eq_getElem?, List.length_map, List.getElem?_map, htl]; rfl
 clear htl hqc cl0
 obtain ⟨sl1, hsl1⟩ : ∃ x, x = stp.length - 1 := ⟨_, rfl⟩
 rw [← hsl1] at cl1 ew hli
 clear hsl1
 by_cases hl0 : tl.l.length = 0
 rotate_left
 ·have hl0b : ((tl.l.length : Int) != 0) = true := by rw [bne_iff_ne]; omega
  have HNO : Hid (¬ RefP (V : Int) (cls.map CL.l) (stp.map CL.l)) := fun hh => by
   have h2 := hh.2.1
   rw [HLAST.out] at h2
   have h3 := Option.some.inj h2
   rw [h3] at hl0; exact hl0 rfl
  clear hl0
  go_wp2
  go_ret
  exact ⟨false, rfl, ⟨fun h => (by cases h), fun h => absurd h HNO.out⟩, HBE.out⟩
 have hl0b : ((tl.l.length : Int) != 0) = false := by rw [hl0]; rfl
 have HLAST2 : Hid ((stp.map CL.l).getLast? = some []) := by show _ = _; rw [HLAST.out, List.eq_nil_of_length_eq_zero hl0]
 have g0 : w1.cell? ⟨fx, 0, none⟩ = some (.int .i64 (V : Int)) := (HB1W.out.cell (p := ⟨fx, 0, none⟩) hfl).trans (by simp [World.cell?, HX.out])
 clear hl0
 go_upto_region 5 with fail
 generalize hX2 : World.alloc w1 _ = X
 obtain ⟨gx, hgx⟩ : ∃ x, x = w1.heap.size := ⟨_, rfl⟩
 have HBX : Hid (Below w1.heap.size w1 X) := by rw [← hX2]; exact (Below.refl _ _).alloc (Nat.le_refl _) _
 have HXC : Hid (X.heap[gx]? = some (.cells #[.int .i64 (V : Int), .slice none 0 0] 24 (0, 0))) := by rw [← hX2, hgx]; exact heap_new _ _
 have hgX : gx < X.heap.size := by rw [← hX2, hgx]; simp
 rw [← hgx]
 have hgw : w1.heap.size ≤ gx := by omega
 clear hX2 hgx g0 cl1 ew hli hs0b hl0b
 have hsX := HBX.out.size
 have HFX : Hid (∀ w', Below w1.heap.size w1 w' → w'.cell? ⟨fx, 0, none⟩ = some (.int .i64 (V : Int)) ∧ w'.cell? ⟨fx, 1, none⟩ = some (.slice a cls.length cc)) := fun w' hb => by
  have h1 : w1.cell? ⟨fx, 0, none⟩ = some (.int .i64 (V : Int)) := (HB1W.out.cell (p := ⟨fx, 0, none⟩) hfl).trans (by simp [World.cell?, HX.out])
  have h2 : w1.cell? ⟨fx, 1, none⟩ = some (.slice a cls.length cc) := (HB1W.out.cell (p := ⟨fx, 1, none⟩) hfl).trans (by simp [World.cell?, HX.out])
  exact ⟨(hb.cell (p := ⟨fx, 0, none⟩) (by show fx < _; omega)).trans h1, (hb.cell (p := ⟨fx, 1, none⟩) (by show fx < _; omega)).trans h2⟩
 have x1 := (HFX.out X HBX.out).2
 have y1 : X.cell? ⟨gx, 1, none⟩ = some (.slice none 0 0) := by simp [World.cell?, HXC.out]
 have z1 : X.frozen? ⟨gx, 1, none⟩ = false := by simp [World.frozen?, HXC.out]
 have hw1 : w.heap.size ≤ w1.heap.size := HBE.out.size
 have HBEX : Hid (Below w.heap.size w X) := HBE.out.trans (HBX.out.mono hw1)
 have hgw' : w.heap.size ≤ gx := by omega
 have hflX : fx < X.heap.size := by omega
 have hfgx : fx ≠ gx := by omega
 have HFX0 : Hid (X.cell? ⟨fx, 0, none⟩ = some (.int .i64 (V : Int))) := (HFX.out X HBX.out).1
 have HXZ : Hid (∀ j, X.frozen? ⟨gx, j, none⟩ = false) := fun j => by simp [World.frozen?, HXC.out]
 have HXV : Hid (X.cell? ⟨gx, 0, none⟩ = some (.int .i64 (V : Int))) := by show _ = _; simp [World.cell?, HXC.out]
 by_cases hc0 : cls.length = 0
 ·have hnil := app_none X a cc
  have hc0' : cls = [] := List.eq_nil_of_length_eq_zero hc0
  have HC0 := hidden hc0'
  rw [hc0] at x1
  clear hc0'
  have HSET : Hid (∀ w', w' = X.setCell ⟨gx, 1, none⟩ (.slice none 0 0) → X.grownBy w' (some gx) ∧ w'.cell? ⟨gx, 1, none⟩ = some (.slice none 0 0) ∧ w'.cell? ⟨gx, 0, none⟩ = some (.int .i64 (V : Int)) ∧ (∀ j, w'.frozen? ⟨gx, j, none⟩ = false)) := fun w' hw => by
   rw [hw]
   exact ⟨gset _ _ _ _, World.cell?_setCell_same (h := y1) .., (World.cell?_setCell_other (h := fun e => by cases e) ..).trans HXV.out, fun j => (World.frozen?_setCell _ _ _ _).trans (HXZ.out j)⟩
  rcases a with _ | ax
  all_goals
   go_upto_region 6 with fail
   generalize hWc : World.setCell X _ _ = Wc
   obtain ⟨s1, s2, s3, s4⟩ := HSET.out Wc hWc.symm
   have HGX0 := hidden s1
   have HU0 := hidden s2
   have HV0 := hidden s3
   have HZ0 := hidden s4
   have HO0 : Hid (Wc.ownsRow X.heap.size 26 1 (.slice none 0 0) cls.length ((cls.map CL.cells).flatten)) := by rw [HC0.out]; exact World.ownsRow_nil _ _ _ _
   clear hWc s1 s2 s3 s4 HSET x1 y1 z1 hnil hc0
   go_upto_block 0 with fail
   refine rfLoop w X Wc B fx gx qb qo V cls stp sc hB hV _ HCL HST htot hcs HLF HBEX HGX0 hgw' hgX hflX hfgx HFX0 (.slice none 0 0) HU0 HV0 HZ0 HO0 _ _ _ _ _ _ _ _ _ _ _ _ _ _ _ _ _ _ _ _ _ _ _ _ _ _ _ _ _ _ _ _ _ _ _ _ _ _ _ _ _ _ _ _ _ _ _ _ _ _ _ _ _ _ _ _ _ _ _ _ _ _ _ _ _ _ _ (hidden ?_) (hidden ?_)
   rotate_left
   ·intro a' w' hd h4 hnot hbe
    have h4' : a'.tmps[4]?.getD undef = .bool false := by simpa using h4
    refine bodyPost_ret (v := .bool false) (by simp [results, Try.results8, go_sem, h4']) hd ?_
    exact ⟨false, rfl, ⟨fun h => (by cases h), fun h => absurd h hnot⟩, hbe⟩
   intro w' v4 v7 v8 v37 v38 v39 v40 v41 v42 v43 v44 v45 v46 v47 v48 v49 v50 v51 v52 v53 v54 v55 v56 v57 v58 v59 v60 v61 v62 v63 v64 v65 v66 v67 v68 hcut
   have HCUT := hidden hcut
   have HREF : Hid (RefP (V : Int) (cls.map CL.l) (stp.map CL.l)) := ⟨⟨by omega, by omega, HLF.out⟩, HLAST2.out, hcut.1⟩
   clear hcut
   go_wp2
   go_ret
   exact ⟨true, rfl, ⟨fun _ => HREF.out, fun _ => rfl⟩, HCUT.out.2⟩
 ·obtain ⟨tc, htc⟩ := getElem_lt (show 0 < cls.length by omega)
  obtain ⟨ab, ao, rfl, hab, hac⟩ := HCL.out.row.el htc
  clear hac
  have HNEW : Hid (∀ j u, ((cls.map CL.cells).flatten)[j]? = some u → X.cell? ((⟨ab, ao, none⟩ : Addr).add j) = some u) := fun j u hj => by
   rw [flat_one, List.getElem?_map] at hj
   cases hcj : cls[j]? with
   | none => rw [hcj] at hj; cases hj
   | some x =>
    rw [hcj] at hj
    obtain ⟨b', o', he, hb', hc'⟩ := HCL.out.row.el hcj
    have he' := Option.some.inj he
    cases he'
    have h0 := hc' 0 _ rfl
    simp only [Nat.mul_one, Nat.add_zero] at h0
    rw [add_none]
    cases hj
    exact (HBEX.out.cell (p := ⟨ab, ao + j, none⟩) (by show ab < _; omega)).trans h0
  have hlen : ((cls.map CL.cells).flatten).length = cls.length * 1 := by rw [flat_one]; simp
  have hone : ∀ u, u ∈ (cls.map CL.cells).flatten → u.oneCell' = true := fun u hu => by
   rw [flat_one] at hu
   obtain ⟨x, _, rfl⟩ := List.mem_map.1 hu
   rfl
  have HONE := hidden hone
  have hm1 : 0 + cls.length ≤ maxLen := by simp only [maxLen]; omega
  have hm2 : (0 + cls.length) * 24 ≤ 140737488355328 := by omega
  have hcpos : 0 < cls.length := by omega
  have KC : Hid (∀ w', X.grownBy w' (Value.slice none 0 0).ownBlock → w'.cell? ⟨gx, 1, none⟩ = some (.slice none 0 0) ∧ w'.frozen? ⟨gx, 1, none⟩ = false ∧ Below X.heap.size X w') := fun w' hg => by
   have hb : Below X.heap.size X w' := none_below hg
   exact ⟨(hb.cell (p := ⟨gx, 1, none⟩) hgX).trans y1, (hb.frozen (p := ⟨gx, 1, none⟩) hgX).trans (HXZ.out 1), hb⟩
  have HLEN := hidden hlen
  obtain ⟨nw, hnw⟩ : ∃ x, x = (cls.map CL.cells).flatten := ⟨_, rfl⟩
  rw [← hnw] at HNEW HLEN HONE
  have HNW := hidden hnw
  clear hnw hlen hone htc hc0
  have tok : True := trivial
  go_upto_region 6 with (have _t := tok; at_builtin; (refine wpList_append_lies _ rfl (.tmp 32) (.tmp 34) 22 rfl X.heap.size 26 ic _ 1 24 Try.underlying22 HIC.out HZC.out HSC.out HYC.out rfl (by decide) (.slice none 0 0) 0 [] rfl (World.ownsRow_nil _ _ _ _) ⟨ab, ao, none⟩ cls.length cc nw rfl HLEN.out HNEW.out HONE.out hcpos hm1 hm2 (Nat.le_refl _) _ rfl ?_; intro g cap w5 hown hgrow hat hlt5; clear tok; have hcc := (KC.out w5 hgrow).1; have hff := (KC.out w5 hgrow).2.1))
  generalize hWc : World.setCell w5 _ _ = Wc
  have hbw5 := (KC.out w5 hgrow).2.2
  have hgg : g ≠ gx := fun e => by
   rcases hat with h | h
   ·cases h
   ·omega
  have hgs : w5.grownBy Wc (some gx) := by rw [← hWc]; exact gset _ _ _ _
  have HGX0 : Hid (X.grownBy Wc (some gx)) := grown_trn (gbel hbw5 _) hgs
  have HU0 : Hid (Wc.cell? ⟨gx, 1, none⟩ = some (.slice (some ⟨g, 0, none⟩) cls.length cap)) := by rw [← hWc]; exact World.cell?_setCell_same (h := hcc) ..
  have HV0 : Hid (Wc.cell? ⟨gx, 0, none⟩ = some (.int .i64 (V : Int))) := by rw [← hWc]; exact (World.cell?_setCell_other (h := fun e => by cases e) ..).trans ((hbw5.cell (p := ⟨gx, 0, none⟩) hgX).trans HXV.out)
  have HZ0 : Hid (∀ j, Wc.frozen? ⟨gx, j, none⟩ = false) := fun j => by rw [← hWc]; exact (World.frozen?_setCell _ _ _ _).trans ((hbw5.frozen (p := ⟨gx, j, none⟩) hgX).trans (HXZ.out j))
  have HO0 : Hid (Wc.ownsRow X.heap.size 26 1 (.slice (some ⟨g, 0, none⟩) cls.length cap) cls.length ((cls.map CL.cells).flatten)) := by
   have := hown.kept hgs (.inr (fun e => hgg (by cases e; rfl)))
   rw [Nat.zero_add] at this
   rw [← HNW.out]; exact this
  clear hWc hgs hgg hown hgrow hat hlt5 hcc hff hbw5 KC x1 y1 z1
  go_upto_block 0 with fail
  refine rfLoop w X Wc B fx gx qb qo V cls stp sc hB hV _ HCL HST htot hcs HLF HBEX HGX0 hgw' hgX hflX hfgx HFX0 _ HU0 HV0 HZ0 HO0 _ _ _ _ _ _ _ _ _ _ _ _ _ _ _ _ _ _ _ _ _ _ _ _ _ _ _ _ _ _ _ _ _ _ _ _ _ _ _ _ _ _ _ _ _ _ _ _ _ _ _ _ _ _ _ _ _ _ _ _ _ _ _ _ _ _ _ (hidden ?_) (hidden ?_)
  rotate_left
  ·intro a' w' hd h4 hnot hbe
   have h4' : a'.tmps[4]?.getD undef = .bool false := by simpa using h4
   refine bodyPost_ret (v := .bool false) (by simp [results, Try.results8, go_sem, h4']) hd ?_
   exact ⟨false, rfl, ⟨fun h => (by cases h), fun h => absurd h hnot⟩, hbe⟩
  intro w' v4 v7 v8 v37 v38 v39 v40 v41 v42 v43 v44 v45 v46 v47 v48 v49 v50 v51 v52 v53 v54 v55 v56 v57 v58 v59 v60 v61 v62 v63 v64 v65 v66 v67 v68 hcut
  have HCUT := hidden hcut
  have HREF : Hid (RefP (V : Int) (cls.map CL.l) (stp.map CL.l)) := ⟨⟨by omega, by omega, HLF.out⟩, HLAST2.out, hcut.1⟩
  clear hcut
  go_wp2
  go_ret
  exact ⟨true, rfl, ⟨fun _ => HREF.out, fun _ => rfl⟩, HCUT.out.2⟩
end Go.Proofs.Ytefjicdhccfieaa
