import Derived.Test.YtefjicdhccfieaaJ01
import Derived.Test.YtefjicdhccfieaaJ20
import Derived.Test.YtefjicdhccfieaaJ11
set_option maxRecDepth 100000
set_option maxHeartbeats 16000000
namespace Go.Proofs.Ytefjicdhccfieaa
open Go.RowKit
theorem own_same {w w' : World} {B e size n : Nat} {v : Value} {xs : List Value} (h : w.ownsRow B e size v n xs) (hb : ∀ b, v.ownBlock = some b → w'.heap[b]? = w.heap[b]?) : w'.ownsRow B e size v n xs := by
 refine ⟨h.1, ?_⟩
 rcases h.2 with h0 | ⟨g, cap, cur, hv, h1, h2, h3⟩
 ·exact .inl h0
 ·refine .inr ⟨g, cap, cur, hv, h1, ?_, h3⟩
  rw [hb g (by rw [hv]; rfl)]; exact h2
theorem MFP.grown {C : Nat} {w w5 : World} {wb : Nat} {S : GrS} {G : GrD} {vv : Int} {F : List (List Int)} {Ps : List Nat} (h : MFP C w wb S G vv F Ps) {sv : Value} (hsv : ∀ b, sv.ownBlock = some b → b ∈ Ps) (hg : w.grownBy w5 sv.ownBlock) {g : Nat} (hat : sv.ownBlock = some g ∨ w.heap.size ≤ g) (hlt : g < w5.heap.size) : MFP C w5 wb S G vv F [g] := by
 obtain ⟨u, cls, k1, k2, k3⟩ := h
 have hq := fun b (e : sv.ownBlock = some b) => k3 b (hsv b e)
 refine ⟨u, cls, ⟨?_, k1.fld, k1.own.kept hg ?_, k1.nb, fun t ht => ?_, fun t ht x hx => ⟨(k1.far t ht x hx).1, Nat.lt_of_lt_of_le (k1.far t ht x hx).2.1 hg.size, (k1.far t ht x hx).2.2⟩, k1.base⟩, k2, fun b hb => ?_⟩
 ·rw [hg.block wb k1.lt (fun e => (hq wb e.symm).2.1 rfl)]; exact k1.box
 ·cases hv : u.ownBlock with
  | none => exact .inl rfl
  | some k => exact .inr (fun e => (hq k e.symm).2.2.1 hv)
 ·exact row_keep (k1.each t ht) hg.size (fun x hx j => World.cell?_of_block (hg.block x.block (k1.far t ht x hx).2.1 (fun e => (hq _ e.symm).2.2.2 t ht x hx rfl)))
 ·obtain rfl := List.mem_singleton.1 hb
  rcases hat with e | e
  ·obtain ⟨-, q2, q3, q4⟩ := hq _ e
   exact ⟨hlt, q2, q3, q4⟩
  ·exact ⟨hlt, by have := k1.lt; omega, fun e' => by have := (k1.own.lt _ e').2; omega, fun t ht x hx e' => by have := (k1.far t ht x hx).2.1; omega⟩
theorem MFP.setV {C : Nat} {w : World} {wb : Nat} {S : GrS} {G : GrD} {vv : Int} {F : List (List Int)} (h : MFP C w wb S G vv F []) (v' : Int) : MFP C (w.setCell ⟨wb, 4, none⟩ (.int .i64 v')) wb S G v' F [] ∧ Below C w (w.setCell ⟨wb, 4, none⟩ (.int .i64 v')) := by
 obtain ⟨u, cls, k1, k2, -⟩ := h
 have hsz : (w.setCell ⟨wb, 4, none⟩ (.int .i64 v')).heap.size = w.heap.size := by simp [World.setCell]
 have hg := gset w wb 4 (.int .i64 v')
 refine ⟨⟨u, cls, ⟨?_, k1.fld, k1.own.kept hg (.inr (fun e => k1.nb e)), k1.nb, fun t ht => ?_, fun t ht x hx => by rw [hsz]; exact k1.far t ht x hx, k1.base⟩, k2, fun b hb => by cases hb⟩, below_of hg k1.base (Nat.le_trans k1.base (Nat.le_of_lt k1.lt))⟩
 ·exact set_self k1.box
 ·refine row_keep (k1.each t ht) (by rw [hsz]; exact Nat.le_refl _) (fun x hx j' => ?_)
  exact World.cell?_setCell_far _ _ _ _ (fun e => (k1.far t ht x hx).2.2.1 (by have e' : wb = x.block := e; exact e'.symm))
theorem MFP.c4 {C : Nat} {w : World} {wb : Nat} {S : GrS} {G : GrD} {vv : Int} {F : List (List Int)} {Ps : List Nat} (h : MFP C w wb S G vv F Ps) : w.cell? ⟨wb, 4, none⟩ = some (.int .i64 vv) ∧ w.frozen? ⟨wb, 4, none⟩ = false := by
 obtain ⟨u, cls, k1, -, -⟩ := h
 exact ⟨(cell_of_row _ _ 4 _ _ (0, 0) k1.box).trans rfl, frozen_of_row w wb 4 _ _ k1.box⟩
theorem someF_len (bf : Int) (n : Nat) : (someF bf n).length = n := by unfold someF; simp
theorem someF_next (bf : Int) (n : Nat) : someF bf (n + 1) = someF bf n ++ [bf + 1 + (n : Int)] := by unfold someF; rw [List.range_succ, List.map_append]; rfl
theorem unlike_doc (C : Nat) (w : World) (mb : Nat) (S : GrS) (G : GrD) (vv : Int) (F : List (List Int)) (hW : MFP C w mb S G vv F []) (hj : JnB G) (pa : Option Addr) (pc : Nat) (prs : List AndD) (R : RowAt C w pa 2 (prs.map AndD.cells)) (hpl : ∀ d, d ∈ prs → (0 ≤ d.x ∧ d.x ≤ 4000000) ∧ (0 ≤ d.y ∧ d.y ≤ 4000000)) (k : Int) (hk : k = 0 ∨ k = 1) (m : Int) (hm : m = 1 ∨ m = 2) (hn : F.length + 2 * prs.length + 1 ≤ 16777216) :
  Calls Try.prog 56 #[.pointer (some ⟨mb, 0, none⟩), .int .i64 k, .slice pa prs.length pc, .int .i64 m] w fun e w' => e = .returned (.tuple #[]) ∧ MFP C w' mb S G (m * G.vars + prs.length) (F ++ (List.range prs.length).flatMap (unlikeF G.vars k (m * G.vars) prs) ++ [someF (m * G.vars) prs.length]) [] ∧ Below C w w' := by
 have HW := hidden hW
 have HJ := hidden hj
 have HR := hidden R
 have HPL := hidden hpl
 have HK := hidden hk
 have hCw := hW.size
 have VA : Hid (∀ w', Calls Try.prog 52 #[.agg #[.int .i64 G.ins, .slice S.a1 G.lats.length S.c1, .slice S.a2 G.ands.length S.c2, .slice S.a3 G.outs.length S.c3]] w' fun e w'' => e = .returned (.int .i64 G.vars) ∧ Below w'.heap.size w' w'') := fun w' => vars_any w' S G hj.i0 hj.i1 (by have := hj.l1; simp only [big]; omega) (by have := hj.a1; simp only [big]; omega)
 obtain ⟨an, HAN⟩ : ∃ n, Hid (n = prs.length) := ⟨_, rfl⟩
 obtain ⟨fl, HFL⟩ : ∃ n, Hid (n = F.length) := ⟨_, rfl⟩
 obtain ⟨bf, HBF⟩ : ∃ n, Hid (n = m * G.vars) := ⟨_, rfl⟩
 have hbf : 0 ≤ bf ∧ bf ≤ 2000000 := by have := hj.vs; rw [HBF.out]; rcases hm with rfl | rfl <;> omega
 have e0 : IntKind.i64.wrap (m * G.vars) = bf := by rw [HBF.out]; exact wrapI _ (by have := HBF.out; omega) (by have := HBF.out; omega)
 rw [← HAN.out, ← HFL.out] at hn
 rw [← HAN.out, ← HBF.out]
 obtain ⟨io, hi, hz, hs, hby⟩ := info_int
 have HI := hidden hi
 have HZ := hidden hz
 have HSI := hidden hs
 have HBY := hidden hby
 clear hi hz hs hby
 clear hW hj R hpl hk hm
 go_enter Try.func56, Try.ntmps56
 go_wp2_with fail
 go_loopw [8, 9] (fun sv i' w' => ∃ (i : Nat), i ≤ an ∧ i' = .int .i64 i ∧ Hid (MFP C w' mb S G vv (F ++ (List.range i).flatMap (unlikeF G.vars k bf prs)) sv.ownBlock.toList) ∧ Hid (w'.ownsRow C 3 1 sv i ((someF bf i).map (Value.int .i64))) ∧ Hid (Below C w w')) (fun _ i' _ => an - (intOf i').toNat)
 case atStart => exact ⟨0, Nat.zero_le _, rfl, by show MFP _ _ _ _ _ _ _ _; simp only [List.range_zero, List.flatMap_nil, List.append_nil]; exact HW.out, ⟨rfl, .inl ⟨rfl, rfl⟩⟩, Below.refl _ _⟩
 case round =>
  obtain ⟨i, hi, rfl, HM0, HO0, HQ0⟩ := hrel
  by_cases hlt : i < an
  ·have hltI : (i : Int) < (an : Int) := by omega
   obtain ⟨d, hd⟩ := getElem_lt (show i < prs.length by have := HAN.out; omega)
   obtain ⟨b, o, ea, hlb, hc⟩ := (HR.out.to HQ0.out).el hd
   have HC0 : Hid (∀ w', Below C wr w' → w'.cell? ⟨b, o + i * 2, none⟩ = some (.int .i64 d.x)) := fun w' hb => (hb.cell (p := ⟨b, o + i * 2, none⟩) hlb).trans (hc 0 _ rfl)
   have HC1 : Hid (∀ w', Below C wr w' → w'.cell? ⟨b, o + i * 2 + 1, none⟩ = some (.int .i64 d.y)) := fun w' hb => (hb.cell (p := ⟨b, o + i * 2 + 1, none⟩) hlb).trans (hc 1 _ rfl)
   have hdl := HPL.out d (List.mem_of_getElem? hd)
   have HGF : Hid (unlikeF G.vars k bf prs i = [[-(bf + 1 + (i : Int)), numF G.vars k d.x, numF G.vars k d.y], [-(bf + 1 + (i : Int)), -(numF G.vars k d.x), -(numF G.vars k d.y)]]) := by show _ = _; unfold unlikeF; rw [hd]
   obtain ⟨x, y⟩ := d
   dsimp only at HC0 HC1 HGF hdl
   obtain ⟨X, HX⟩ : ∃ zz, Hid (zz = numF G.vars k (x)) := ⟨_, rfl⟩
   have hXb : -4000000 ≤ X ∧ X ≤ 4000000 := by rw [HX.out]; exact numF_le HJ.out.vs HK.out hdl.1
   have NX : Hid (∀ w', BoxAt w' mb S G → Calls Try.prog 55 #[.pointer (some ⟨mb, 0, none⟩), .int .i64 k, .int .i64 (x)] w' fun e w'' => e = .returned (.int .i64 X) ∧ Below w'.heap.size w' w'') := fun w' hc => by rw [HX.out]; exact at_doc w' mb S G hc HJ.out.i0 HJ.out.i1 (by have := HJ.out.l1; simp only [big]; omega) (by have := HJ.out.a1; simp only [big]; omega) HJ.out.vs k (x) HK.out hdl.1
   have enX : IntKind.i64.wrap (-X) = -X := wrapI _ (by omega) (by omega)
   obtain ⟨Y, HY⟩ : ∃ zz, Hid (zz = numF G.vars k (y)) := ⟨_, rfl⟩
   have hYb : -4000000 ≤ Y ∧ Y ≤ 4000000 := by rw [HY.out]; exact numF_le HJ.out.vs HK.out hdl.2
   have NY : Hid (∀ w', BoxAt w' mb S G → Calls Try.prog 55 #[.pointer (some ⟨mb, 0, none⟩), .int .i64 k, .int .i64 (y)] w' fun e w'' => e = .returned (.int .i64 Y) ∧ Below w'.heap.size w' w'') := fun w' hc => by rw [HY.out]; exact at_doc w' mb S G hc HJ.out.i0 HJ.out.i1 (by have := HJ.out.l1; simp only [big]; omega) (by have := HJ.out.a1; simp only [big]; omega) HJ.out.vs k (y) HK.out hdl.2
   have enY : IntKind.i64.wrap (-Y) = -Y := wrapI _ (by omega) (by omega)
   rw [← HX.out, ← HY.out] at HGF
   obtain ⟨D, HD⟩ : ∃ z, Hid (z = bf + 1 + (i : Int)) := ⟨_, rfl⟩
   rw [← HD.out] at HGF
   have hDb : 0 ≤ D ∧ D ≤ 20000000 := by rw [HD.out]; omega
   have e1 : IntKind.i64.wrap (bf + 1) = bf + 1 := wrapI _ (by omega) (by omega)
   have e2 : IntKind.i64.wrap (bf + 1 + (i : Int)) = D := by rw [← HD.out]; exact wrapI _ (by omega) (by omega)
   have enD : IntKind.i64.wrap (-D) = -D := wrapI _ (by omega) (by omega)
   have e3 : IntKind.i64.wrap ((i : Int) + 1) = (i : Int) + 1 := wrapI _ (by omega) (by omega)
   have HLEN : Hid ((F ++ (List.range i).flatMap (unlikeF G.vars k bf prs)).length ≤ fl + 2 * i) := by
    have := flat_len (unlikeF G.vars k bf prs) 2 (unlikeF_len _ _ _ _) i
    have := HFL.out
    simp only [List.length_append]
    show _ ≤ _
    omega
   rw [ea]
   clear hd hc hlb ea
   obtain ⟨FF, HFF⟩ : ∃ z, Hid (z = (F ++ (List.range i).flatMap (unlikeF G.vars k bf prs))) := ⟨_, rfl⟩
   rw [← HFF.out] at HM0 HLEN
   have bx := HM0.out.boxAt
   have x0 := bx.c0
   have x1 := bx.c1
   have x2 := bx.c2
   have x3 := bx.c3
   clear bx
   go_wp2_with fail
   go_at_call 52
   refine (VA.out _).mono ?_
   rintro e v1 ⟨rfl, hbx1⟩
   have HM1 := hidden (HM0.out.rest hbx1)
   have HQ1 : Hid (Below C w v1) := HQ0.out.trans (hbx1.mono HM0.out.size)
   have HO1 := hidden (own_below HO0.out hbx1)
   have hB1 : Below C wr v1 := hbx1.mono HM0.out.size
   have c0 := HC0.out _ hB1
   clear hbx1 x0 x1 x2 x3
   go_wp2_with fail
   go_at_call 55
   refine (NX.out _ HM1.out.boxAt).mono ?_
   rintro e v2 ⟨rfl, hbx2⟩
   have HM2 := hidden (HM1.out.rest hbx2)
   have HQ2 : Hid (Below C w v2) := HQ1.out.trans (hbx2.mono HM1.out.size)
   have HO2 := hidden (own_below HO1.out hbx2)
   have hB2 : Below C wr v2 := hB1.trans (hbx2.mono HM1.out.size)
   have c1 := HC1.out _ hB2
   clear c0 hbx2 hB1 hB2
   go_wp2_with fail
   go_at_call 55
   refine (NY.out _ HM2.out.boxAt).mono ?_
   rintro e v3 ⟨rfl, hbx3⟩
   have HM3 := hidden (HM2.out.rest hbx3)
   have HQ3 : Hid (Below C w v3) := HQ2.out.trans (hbx3.mono HM2.out.size)
   have HO3 := hidden (own_below HO2.out hbx3)
   clear c1 hbx3
   go_wp2_with fail
   go_at_call 54
   refine (put3 C _ mb S G vv _ _ HM3.out (-D) (X) (Y) (by have := HLEN.out; omega)).mono ?_
   rintro e v4 ⟨rfl, hmx4, hbx4, hkx4⟩
   have HM4 := hidden hmx4
   have HQ4 : Hid (Below C w v4) := HQ3.out.trans hbx4
   have HO4 := hidden (own_same HO3.out (fun b hb => hkx4 b (by rw [hb]; simp)))
   clear hmx4 hbx4 hkx4
   go_wp2_with fail
   go_at_call 54
   refine (put3 C _ mb S G vv _ _ HM4.out (-D) (-X) (-Y) (by have := HLEN.out; simp only [List.length_append, List.length_cons, List.length_nil]; omega)).mono ?_
   rintro e v5 ⟨rfl, hmx5, hbx5, hkx5⟩
   have HM5 := hidden hmx5
   have HQ5 : Hid (Below C w v5) := HQ4.out.trans hbx5
   have HO5 := hidden (own_same HO4.out (fun b hb => hkx5 b (by rw [hb]; simp)))
   clear hmx5 hbx5 hkx5
   have hm1 : i + 1 ≤ maxLen := by simp only [maxLen]; omega
   have hm2 : (i + 1) * 8 ≤ 140737488355328 := by omega
   have hm3 : C ≤ (v5.alloc (.cells #[.int .i64 D] 3)).heap.size := by have := HM5.out.size; simp; omega
   have tok : True := trivial
   go_wp2_with (have _t := tok; at_builtin; (refine wpList_append_lies _ rfl (.tmp 61) (.tmp 63) 26 rfl C 3 io _ 1 8 Try.underlying26 HI.out HZ.out HSI.out HBY.out rfl (by decide) u8 i _ rfl (HO5.out.alloc _) ⟨v5.heap.size, 0, none⟩ 1 1 [.int .i64 D] rfl rfl (World.news_of_block (heap_new _ _)) (by simp [Value.oneCell']) (by decide) hm1 hm2 hm3 _ rfl ?_; intro g cap w6 hown hgrow hat hlt6; clear tok; have hg6 := grown_trn (World.grownBy_alloc v5 _ _) hgrow))
   have HM6 := hidden (HM5.out.grown (fun b e => by rw [e]; simp) hg6 (g := g) (by
    rcases hat with h | h
    ·exact .inl h
    ·refine .inr ?_
     simp at h
     omega) hlt6)
   have HQ6 : Hid (Below C w w6) := HQ5.out.trans ⟨hg6.os, hg6.tape, hg6.output, hg6.size, fun k hk => hg6.block k (Nat.lt_of_lt_of_le hk HM5.out.size) (fun e => by have := (HO5.out.lt k e.symm).1; omega)⟩
   have HM9 : Hid (MFP C w6 mb S G vv (F ++ (List.range (i + 1)).flatMap (unlikeF G.vars k bf prs)) [g]) := by
    have := HM6.out
    rw [HFF.out] at this
    show MFP _ _ _ _ _ _ _ _
    rw [flat_next, ← List.append_assoc, HGF.out]
    simpa using this
   have HO9 : Hid (w6.ownsRow C 3 1 (.slice (some ⟨g, 0, none⟩) (i + 1) cap) (i + 1) ((someF bf (i + 1)).map (Value.int .i64))) := by
    rw [someF_next, List.map_append, ← HD.out]
    exact hown
   clear HM0 HM1 HM2 HM3 HM4 HM5 HM6 HO0 HO1 HO2 HO3 HO4 HO5 hown hgrow hat hlt6 hg6
   go_wp2
   go_roundw
   case measure => simp [intOf]; omega
   case rel => exact ⟨i + 1, by omega, by simp, HM9.out, HO9.out, HQ6.out⟩
  ·have hge : ¬ ((i : Int) < (an : Int)) := by omega
   obtain rfl : i = an := by omega
   have how := HO0.out
   rw [← flat_ints] at how
   obtain ⟨a, c, hu, hrow⟩ := own_row how (fun l hl => by obtain ⟨q, _, rfl⟩ := List.mem_map.1 hl; rfl) (by decide)
   have HLEN : Hid ((F ++ (List.range i).flatMap (unlikeF G.vars k bf prs)).length ≤ fl + 2 * i) := by
    have := flat_len (unlikeF G.vars k bf prs) 2 (unlikeF_len _ _ _ _) i
    have := HFL.out
    simp only [List.length_append]
    show _ ≤ _
    omega
   have HOL : Hid (∀ b, (Value.slice a i c).ownBlock = some b → C ≤ b) := fun b hb => by rw [← hu] at hb; exact (HO0.out.lt b hb).1
   clear how HO0
   subst hu
   have PL : Hid (Calls Try.prog 54 #[.pointer (some ⟨mb, 0, none⟩), .slice a i c] wr fun e w' => e = .returned (.tuple #[]) ∧ MFP C w' mb S G vv ((F ++ (List.range i).flatMap (unlikeF G.vars k bf prs)) ++ [someF bf i]) [] ∧ Below C wr w') := by
    have := put_last C wr mb S G vv _ _ HM0.out ⟨a, c, someF bf i⟩ hrow (fun x hx => by
     have hx' : a = some x := hx
     have ho : (Value.slice a i c).ownBlock = some x.block := by rw [hx']; rfl
     exact ⟨by rw [ho]; simp, HOL.out _ ho⟩) (by have := HLEN.out; omega)
    dsimp only at this
    rw [someF_len] at this
    exact this
   clear hrow
   go_wp2_with fail
   go_at_call 54
   refine PL.out.mono ?_
   rintro e v1 ⟨rfl, hmx1, hbx1⟩
   have HM1 := hidden hmx1
   have HQ1 : Hid (Below C w v1) := HQ0.out.trans hbx1
   clear hmx1 hbx1 PL
   have bx := HM1.out.boxAt
   have x0 := bx.c0
   have x1 := bx.c1
   have x2 := bx.c2
   have x3 := bx.c3
   clear bx
   go_wp2_with fail
   go_at_call 52
   refine (VA.out _).mono ?_
   rintro e v2 ⟨rfl, hbx2⟩
   have HM2 := hidden (HM1.out.rest hbx2)
   have HQ2 : Hid (Below C w v2) := HQ1.out.trans (hbx2.mono HM1.out.size)
   clear hbx2 x0 x1 x2 x3
   have e2 : IntKind.i64.wrap (bf + (i : Int)) = bf + (i : Int) := wrapI _ (by omega) (by omega)
   obtain ⟨f4, z4⟩ := HM2.out.c4
   have HS := hidden (HM2.out.setV (bf + (i : Int)))
   go_wp2
   go_end0
   exact ⟨rfl, HS.out.1, HQ2.out.trans HS.out.2⟩
end Go.Proofs.Ytefjicdhccfieaa
