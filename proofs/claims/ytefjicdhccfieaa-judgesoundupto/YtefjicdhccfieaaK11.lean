import Derived.Test.YtefjicdhccfieaaK01
import Derived.Test.YtefjicdhccfieaaK10
set_option maxRecDepth 100000
set_option maxHeartbeats 16000000
namespace Go.Proofs.Ytefjicdhccfieaa
open Go.RowKit
def initF (sz : Int) (G : GrD) (i : Nat) : List (List Int) := match G.lats[i]? with
 | some d => [[if d.init then numF sz 0 (2 * (1 + G.ins + i)) else -(numF sz 0 (2 * (1 + G.ins + i)))]]
 | none => []
theorem begin_any_len (sz : Int) (G : GrD) (i : Nat) : (initF sz G i).length ≤ 1 := by unfold initF; split <;> simp
theorem begin_any (C : Nat) (w : World) (wb gp : Nat) (S : GrS) (G : GrD) (F : List (List Int)) (hW : WF C w wb gp G.vars F) (hJ : JG C w gp S G) (hn : F.length + G.lats.length ≤ 16777216) :
  Calls Try.prog 64 #[.pointer (some ⟨wb, 0, none⟩)] w fun e w' => e = .returned (.tuple #[]) ∧ WF C w' wb gp G.vars (F ++ (List.range G.lats.length).flatMap (initF G.vars G)) ∧ Below C w w' := by
 have HJ := hidden hJ
 have HSZ := hidden hJ.sz
 have HW := hidden hW
 have p0 := hW.c0
 have q1 := hJ.box.c1
 have ha1 := hJ.l1
 obtain ⟨an, HAN⟩ : ∃ n, Hid (n = G.lats.length) := ⟨_, rfl⟩
 obtain ⟨fl, HFL⟩ : ∃ n, Hid (n = F.length) := ⟨_, rfl⟩
 try rw [← HAN.out] at q1
 rw [← HAN.out] at ha1 hn
 try rw [← HAN.out]
 rw [← HFL.out] at hn
 clear hW hJ
 go_enter Try.func64, Try.ntmps64
 go_wp2_with fail
 clear p0 q1
 go_loopw [13] (fun i' w' => ∃ (i : Nat), i ≤ an ∧ i' = .int .i64 i ∧ Hid (WF C w' wb gp G.vars (F ++ (List.range i).flatMap (initF G.vars G))) ∧ Hid (Below C w w')) (fun i' _ => an - (intOf i').toNat)
 case atStart => exact ⟨0, Nat.zero_le _, rfl, by show WF _ _ _ _ _ _; simpa using HW.out, Below.refl _ _⟩
 case round =>
  obtain ⟨i, hi, rfl, HFk, HBk⟩ := hrel
  by_cases hlt : i < an
  ·have hltI : (i : Int) < (an : Int) := by omega
   obtain ⟨d, hd⟩ := getElem_lt (show i < G.lats.length by have := HAN.out; omega)
   obtain ⟨b, o, ea, hlb, hc⟩ := (HJ.out.to HBk.out).at_.l.el hd
   have c0 : wr.cell? ⟨b, o + i * 2, none⟩ = some (.int .i64 d.next) := hc 0 _ rfl
   have c1 : wr.cell? ⟨b, o + i * 2 + 1, none⟩ = some (.bool d.init) := hc 1 _ rfl
   obtain ⟨LL, HLL⟩ : ∃ zz, Hid (zz = 2 * (1 + G.ins + (i : Int))) := ⟨_, rfl⟩
   have hLL : 0 ≤ LL ∧ LL ≤ 4000000 := by have := HJ.out.i0; have := HJ.out.i1; have := HLL.out; omega
   have HGF : Hid (initF G.vars G i = [[if d.init then numF G.vars 0 (2 * (1 + G.ins + i)) else -(numF G.vars 0 (2 * (1 + G.ins + i)))]]) := by show _ = _; unfold initF; rw [hd]
   rw [← HLL.out] at HGF
   obtain ⟨nx, it⟩ := d
   dsimp only at c0 c1 HGF
   obtain ⟨X, HX⟩ : ∃ zz, Hid (zz = numF G.vars 0 LL) := ⟨_, rfl⟩
   have hXb : -4000000 ≤ X ∧ X ≤ 4000000 := by rw [HX.out]; exact numF_le HSZ.out (.inl rfl) hLL
   have NX : Hid (∀ w', w'.cell? ⟨wb, 1, none⟩ = some (.int .i64 G.vars) → Calls Try.prog 77 #[.pointer (some ⟨wb, 0, none⟩), .int .i64 (LL), .int .i64 (0)] w' fun e w'' => e = .returned (.int .i64 X) ∧ w'' = w') := fun w' hc => by rw [HX.out]; exact number_any w' wb G.vars 0 LL hc HSZ.out (.inl rfl) hLL
   have enX : IntKind.i64.wrap (-X) = -X := wrapI _ (by omega) (by omega)
   rw [← HX.out] at HGF
   have HLEN : Hid ((F ++ (List.range i).flatMap (initF G.vars G)).length ≤ fl + 1 * i) := by
    have := flat_len (initF G.vars G) 1 (fun _ => begin_any_len ..) i
    have := HFL.out
    simp only [List.length_append]
    show _ ≤ _
    omega
   have e3 : IntKind.i64.wrap ((i : Int) + 1) = (i : Int) + 1 := wrapI _ (by omega) (by omega)
   rw [ea]
   clear hd hc hlb ea
   go_upto_region 3 with fail
   generalize hW5 : World.alloc wr _ = w5
   have HB5 : Hid (Below wr.heap.size wr w5) := by rw [← hW5]; exact (Below.refl _ _).alloc (Nat.le_refl _) _
   have z0 : w5.cell? ⟨wr.heap.size, 0, none⟩ = some (.int .i64 nx) := by rw [← hW5]; exact cell_of_row _ _ 0 _ _ (0, 0) (heap_new _ _)
   have z1 : w5.cell? ⟨wr.heap.size, 1, none⟩ = some (.bool it) := by rw [← hW5]; exact cell_of_row _ _ 1 _ _ (0, 0) (heap_new _ _)
   have hzb : wr.heap.size < w5.heap.size := by rw [← hW5]; simp
   have HCr : Hid (C ≤ wr.heap.size) := HFk.out.size
   have HF5 := hidden (HFk.out.rest HB5.out)
   have HJ5 := hidden (HJ.out.to (HBk.out.trans (HB5.out.mono HCr.out)))
   have HBw5 : Hid (Below C w w5) := HBk.out.trans (HB5.out.mono HCr.out)
   clear hW5 c0 c1
   obtain ⟨zb, HZB⟩ : ∃ z, Hid (z = wr.heap.size) := ⟨_, rfl⟩
   rw [← HZB.out] at z0 z1 hzb ⊢
   have p0 := HF5.out.c0
   have p1 : Hid (∀ w', Below w5.heap.size w5 w' → w'.cell? ⟨wb, 1, none⟩ = some (.int .i64 G.vars)) := fun w' hb => (HF5.out.rest hb).c1
   have LC : Hid (∀ w', Below w5.heap.size w5 w' → Calls Try.prog 78 #[.pointer (some ⟨wb, 0, none⟩), .int .i64 (i : Int)] w' fun e w'' => e = .returned (.int .i64 LL) ∧ w'' = w') := fun w' hb => by
    have hj := HJ5.out.to (hb.mono (Nat.le_trans HCr.out HB5.out.size))
    rw [HLL.out]; exact latch_any w' wb gp G.ins i (HF5.out.rest hb).c0 hj.box.c0 ⟨hj.i0, hj.i1⟩ ⟨by omega, by omega⟩
   have HFv := HF5
   have HBv := HBw5
   go_wp2_with fail
   go_at_call 78
   refine (LC.out _ (Below.refl _ _)).mono ?_
   rintro e v9 ⟨rfl, hv9⟩
   rw [hv9]
   clear hv9 v9
   go_wp2_with fail
   go_at_call 77
   refine (NX.out _ (p1.out _ (Below.refl _ _))).mono ?_
   rintro e v9 ⟨rfl, hv9⟩
   rw [hv9]
   clear hv9 v9
   cases it
   ·simp only [Bool.false_eq_true, if_false] at HGF
    go_wp2_with fail
    go_at_call 76
    refine (say1 C _ wb gp G.vars _ HFv.out (-X) (by have := HLEN.out; (try rw [List.length_append, List.length_singleton]); omega)).mono ?_
    rintro e w6 ⟨rfl, hf_w6, hb_w6⟩
    have HF_w6 := hidden hf_w6
    have HB_w6 := hidden hb_w6
    clear hf_w6 hb_w6
    have HF8 : Hid (WF C w6 wb gp G.vars (F ++ (List.range (i + 1)).flatMap (initF G.vars G))) := by
     have := HF_w6.out
     show WF _ _ _ _ _ _
     rw [flat_next, HGF.out]
     simpa using this
    have HB8 : Hid (Below C w w6) := (HBv.out).trans HB_w6.out
    clear HFv HBv HF_w6 HB_w6
    go_wp2
    go_roundw
    case measure => simp [intOf]; omega
    case rel => exact ⟨i + 1, by omega, by simp, HF8.out, HB8.out⟩
   ·simp only [if_true] at HGF
    go_wp2_with fail
    go_at_call 76
    refine (say1 C _ wb gp G.vars _ HFv.out (X) (by have := HLEN.out; (try rw [List.length_append, List.length_singleton]); omega)).mono ?_
    rintro e w6 ⟨rfl, hf_w6, hb_w6⟩
    have HF_w6 := hidden hf_w6
    have HB_w6 := hidden hb_w6
    clear hf_w6 hb_w6
    have HF8 : Hid (WF C w6 wb gp G.vars (F ++ (List.range (i + 1)).flatMap (initF G.vars G))) := by
     have := HF_w6.out
     show WF _ _ _ _ _ _
     rw [flat_next, HGF.out]
     simpa using this
    have HB8 : Hid (Below C w w6) := (HBv.out).trans HB_w6.out
    clear HFv HBv HF_w6 HB_w6
    go_wp2
    go_roundw
    case measure => simp [intOf]; omega
    case rel => exact ⟨i + 1, by omega, by simp, HF8.out, HB8.out⟩
  ·have hge : ¬ ((i : Int) < (an : Int)) := by omega
   have HX : Hid (WF C wr wb gp G.vars (F ++ (List.range an).flatMap (initF G.vars G)) ∧ Below C w wr) := by
    refine ⟨?_, HBk.out⟩
    have := HFk.out
    rw [show i = an by omega] at this
    exact this
   go_wp2
   go_end0
   exact ⟨rfl, HX.out⟩
def goOnF (sz : Int) (G : GrD) (i : Nat) : List (List Int) := match G.lats[i]? with
 | some d => [[-(numF sz 1 (2 * (1 + G.ins + i))), numF sz 0 d.next], [numF sz 1 (2 * (1 + G.ins + i)), -(numF sz 0 d.next)]]
 | none => []
theorem goOn_any_len (sz : Int) (G : GrD) (i : Nat) : (goOnF sz G i).length ≤ 2 := by unfold goOnF; split <;> simp
theorem goOn_any (C : Nat) (w : World) (wb gp : Nat) (S : GrS) (G : GrD) (F : List (List Int)) (hW : WF C w wb gp G.vars F) (hJ : JG C w gp S G) (hn : F.length + 2 * G.lats.length ≤ 16777216) :
  Calls Try.prog 66 #[.pointer (some ⟨wb, 0, none⟩)] w fun e w' => e = .returned (.tuple #[]) ∧ WF C w' wb gp G.vars (F ++ (List.range G.lats.length).flatMap (goOnF G.vars G)) ∧ Below C w w' := by
 have HJ := hidden hJ
 have HSZ := hidden hJ.sz
 have HW := hidden hW
 have p0 := hW.c0
 have q1 := hJ.box.c1
 have ha1 := hJ.l1
 obtain ⟨an, HAN⟩ : ∃ n, Hid (n = G.lats.length) := ⟨_, rfl⟩
 obtain ⟨fl, HFL⟩ : ∃ n, Hid (n = F.length) := ⟨_, rfl⟩
 try rw [← HAN.out] at q1
 rw [← HAN.out] at ha1 hn
 try rw [← HAN.out]
 rw [← HFL.out] at hn
 clear hW hJ
 go_enter Try.func66, Try.ntmps66
 go_wp2_with fail
 clear p0 q1
 go_loopw [14] (fun i' w' => ∃ (i : Nat), i ≤ an ∧ i' = .int .i64 i ∧ Hid (WF C w' wb gp G.vars (F ++ (List.range i).flatMap (goOnF G.vars G))) ∧ Hid (Below C w w')) (fun i' _ => an - (intOf i').toNat)
 case atStart => exact ⟨0, Nat.zero_le _, rfl, by show WF _ _ _ _ _ _; simpa using HW.out, Below.refl _ _⟩
 case round =>
  obtain ⟨i, hi, rfl, HFk, HBk⟩ := hrel
  by_cases hlt : i < an
  ·have hltI : (i : Int) < (an : Int) := by omega
   obtain ⟨d, hd⟩ := getElem_lt (show i < G.lats.length by have := HAN.out; omega)
   obtain ⟨b, o, ea, hlb, hc⟩ := (HJ.out.to HBk.out).at_.l.el hd
   have c0 : wr.cell? ⟨b, o + i * 2, none⟩ = some (.int .i64 d.next) := hc 0 _ rfl
   have c1 : wr.cell? ⟨b, o + i * 2 + 1, none⟩ = some (.bool d.init) := hc 1 _ rfl
   obtain ⟨LL, HLL⟩ : ∃ zz, Hid (zz = 2 * (1 + G.ins + (i : Int))) := ⟨_, rfl⟩
   have hLL : 0 ≤ LL ∧ LL ≤ 4000000 := by have := HJ.out.i0; have := HJ.out.i1; have := HLL.out; omega
   have hnl := HJ.out.latL d (List.mem_of_getElem? hd)
   have HGF : Hid (goOnF G.vars G i = [[-(numF G.vars 1 (2 * (1 + G.ins + i))), numF G.vars 0 d.next], [numF G.vars 1 (2 * (1 + G.ins + i)), -(numF G.vars 0 d.next)]]) := by show _ = _; unfold goOnF; rw [hd]
   rw [← HLL.out] at HGF
   obtain ⟨nx, it⟩ := d
   dsimp only at c0 c1 HGF hnl
   obtain ⟨X, HX⟩ : ∃ zz, Hid (zz = numF G.vars 1 LL) := ⟨_, rfl⟩
   have hXb : -4000000 ≤ X ∧ X ≤ 4000000 := by rw [HX.out]; exact numF_le HSZ.out (.inr rfl) hLL
   have NX : Hid (∀ w', w'.cell? ⟨wb, 1, none⟩ = some (.int .i64 G.vars) → Calls Try.prog 77 #[.pointer (some ⟨wb, 0, none⟩), .int .i64 (LL), .int .i64 (1)] w' fun e w'' => e = .returned (.int .i64 X) ∧ w'' = w') := fun w' hc => by rw [HX.out]; exact number_any w' wb G.vars 1 LL hc HSZ.out (.inr rfl) hLL
   have enX : IntKind.i64.wrap (-X) = -X := wrapI _ (by omega) (by omega)
   obtain ⟨Y, HY⟩ : ∃ zz, Hid (zz = numF G.vars 0 nx) := ⟨_, rfl⟩
   have hYb : -4000000 ≤ Y ∧ Y ≤ 4000000 := by rw [HY.out]; exact numF_le HSZ.out (.inl rfl) hnl
   have NY : Hid (∀ w', w'.cell? ⟨wb, 1, none⟩ = some (.int .i64 G.vars) → Calls Try.prog 77 #[.pointer (some ⟨wb, 0, none⟩), .int .i64 (nx), .int .i64 (0)] w' fun e w'' => e = .returned (.int .i64 Y) ∧ w'' = w') := fun w' hc => by rw [HY.out]; exact number_any w' wb G.vars 0 nx hc HSZ.out (.inl rfl) hnl
   have enY : IntKind.i64.wrap (-Y) = -Y := wrapI _ (by omega) (by omega)
   rw [← HX.out, ← HY.out] at HGF
   have HLEN : Hid ((F ++ (List.range i).flatMap (goOnF G.vars G)).length ≤ fl + 2 * i) := by
    have := flat_len (goOnF G.vars G) 2 (fun _ => goOn_any_len ..) i
    have := HFL.out
    simp only [List.length_append]
    show _ ≤ _
    omega
   have e3 : IntKind.i64.wrap ((i : Int) + 1) = (i : Int) + 1 := wrapI _ (by omega) (by omega)
   rw [ea]
   clear hd hc hlb ea
   go_upto_region 3 with fail
   generalize hW5 : World.alloc wr _ = w5
   have HB5 : Hid (Below wr.heap.size wr w5) := by rw [← hW5]; exact (Below.refl _ _).alloc (Nat.le_refl _) _
   have z0 : w5.cell? ⟨wr.heap.size, 0, none⟩ = some (.int .i64 nx) := by rw [← hW5]; exact cell_of_row _ _ 0 _ _ (0, 0) (heap_new _ _)
   have z1 : w5.cell? ⟨wr.heap.size, 1, none⟩ = some (.bool it) := by rw [← hW5]; exact cell_of_row _ _ 1 _ _ (0, 0) (heap_new _ _)
   have hzb : wr.heap.size < w5.heap.size := by rw [← hW5]; simp
   have HCr : Hid (C ≤ wr.heap.size) := HFk.out.size
   have HF5 := hidden (HFk.out.rest HB5.out)
   have HJ5 := hidden (HJ.out.to (HBk.out.trans (HB5.out.mono HCr.out)))
   have HBw5 : Hid (Below C w w5) := HBk.out.trans (HB5.out.mono HCr.out)
   clear hW5 c0 c1
   obtain ⟨zb, HZB⟩ : ∃ z, Hid (z = wr.heap.size) := ⟨_, rfl⟩
   rw [← HZB.out] at z0 z1 hzb ⊢
   have p0 := HF5.out.c0
   have p1 : Hid (∀ w', Below w5.heap.size w5 w' → w'.cell? ⟨wb, 1, none⟩ = some (.int .i64 G.vars)) := fun w' hb => (HF5.out.rest hb).c1
   have LC : Hid (∀ w', Below w5.heap.size w5 w' → Calls Try.prog 78 #[.pointer (some ⟨wb, 0, none⟩), .int .i64 (i : Int)] w' fun e w'' => e = .returned (.int .i64 LL) ∧ w'' = w') := fun w' hb => by
    have hj := HJ5.out.to (hb.mono (Nat.le_trans HCr.out HB5.out.size))
    rw [HLL.out]; exact latch_any w' wb gp G.ins i (HF5.out.rest hb).c0 hj.box.c0 ⟨hj.i0, hj.i1⟩ ⟨by omega, by omega⟩
   have K1 : Hid (∀ w', Below w5.heap.size w5 w' → (fun w' => w'.cell? ⟨zb, 0, none⟩ = some (.int .i64 nx)) w') := fun w' hb => (hb.cell (p := ⟨zb, 0, none⟩) hzb).trans z0
   clear z0 z1 p0
   refine wp_region_noPanic ?_
   refine wp_region_held_drew (S := (fun w' => w'.cell? ⟨zb, 0, none⟩ = some (.int .i64 nx))) (by kernel_rfl) (by first | assumption | exact K1.out _ (Below.refl _ _) | exact K1.out _ (Below.drew (Below.refl _ _)) | exact K1.out _ (by assumption)) (fun hHeld => ?_)
   refine tk 0 ?_
   refine tk 1 ?_
   refine tk 2 ?_
   refine tk 5 ?_
   refine tk 6 ?_
   refine tk 7 ?_
   refine wpAnyH_ready (rs := [3]) (by kernel_rfl) (by simp) ?_
   refine AllReadyH.cons (o := _) rfl (fun K hK => ?_) AllReadyH.nil
   (try simp only [gA, gB, gC])
   go_simp
   go_at_call 78
   refine (LC.out _ (Below.drew (Below.refl w5.heap.size w5))).mono ?_
   rintro e v9 ⟨rfl, hv9⟩
   rw [hv9]
   clear hv9 v9
   go_wp2_with fail
   refine hK.out _ _ (by first | assumption | exact K1.out _ (Below.refl _ _) | exact K1.out _ (Below.drew (Below.refl _ _)) | exact K1.out _ (by assumption)) (fun hHeld1 => ?_)
   clear hK K
   try simp only [Act.put, sA, sB, sC]
   refine wpAnyH_ready (rs := [4]) (by kernel_rfl) (by simp) ?_
   refine AllReadyH.cons (o := _) rfl (fun K hK => ?_) AllReadyH.nil
   (try simp only [gA, gB, gC])
   go_simp
   go_at_call 77
   refine (NX.out _ (p1.out _ (Below.drew (Below.refl w5.heap.size w5)))).mono ?_
   rintro e v9 ⟨rfl, hv9⟩
   rw [hv9]
   clear hv9 v9
   go_wp2_with fail
   refine hK.out _ _ (by first | assumption | exact K1.out _ (Below.refl _ _) | exact K1.out _ (Below.drew (Below.refl _ _)) | exact K1.out _ (by assumption)) (fun hHeld2 => ?_)
   clear hK K
   try simp only [Act.put, sA, sB, sC]
   refine wpAnyH_ready (rs := [8]) (by kernel_rfl) (by simp) ?_
   refine AllReadyH.cons (o := _) rfl (fun K hK => ?_) AllReadyH.nil
   (try simp only [gA, gB, gC])
   go_simp
   go_at_call 77
   refine (NY.out _ (p1.out _ (Below.drew (Below.refl w5.heap.size w5)))).mono ?_
   rintro e v9 ⟨rfl, hv9⟩
   rw [hv9]
   clear hv9 v9
   go_wp2_with fail
   refine hK.out _ _ (by first | assumption | exact K1.out _ (Below.refl _ _) | exact K1.out _ (Below.drew (Below.refl _ _)) | exact K1.out _ (by assumption)) (fun hHeld3 => ?_)
   clear hK K
   try simp only [Act.put, sA, sB, sC]
   refine tk 9 ?_
   refine tk 10 ?_
   refine wpAnyH_done (by kernel_rfl) ?_ _
   refine NoPanic.normal ?_
   try clear hHeld
   try clear hHeld1
   try clear hHeld2
   try clear hHeld3
   have HFv := hidden (HF5.out.rest (Below.drew (Below.refl w5.heap.size w5)))
   have HBv : Hid (Below C w w5.drew) := HBw5.out.trans (Below.drew (Below.refl _ _))
   generalize w5.drew = v5 at HFv HBv ⊢
   clear K1 HF5 HJ5 HBw5 HFk
   go_wp2_with fail
   go_at_call 76
   refine (say2 C _ wb gp G.vars _ HFv.out (-X) (Y) (by have := HLEN.out; (try rw [List.length_append, List.length_singleton]); omega)).mono ?_
   rintro e w6 ⟨rfl, hf_w6, hb_w6⟩
   have HF_w6 := hidden hf_w6
   have HB_w6 := hidden hb_w6
   clear hf_w6 hb_w6
   go_wp2_with fail
   go_at_call 76
   refine (say2 C _ wb gp G.vars _ HF_w6.out (X) (-Y) (by have := HLEN.out; (try rw [List.length_append, List.length_singleton]); omega)).mono ?_
   rintro e w7 ⟨rfl, hf_w7, hb_w7⟩
   have HF_w7 := hidden hf_w7
   have HB_w7 := hidden hb_w7
   clear hf_w7 hb_w7
   have HF8 : Hid (WF C w7 wb gp G.vars (F ++ (List.range (i + 1)).flatMap (goOnF G.vars G))) := by
    have := HF_w7.out
    show WF _ _ _ _ _ _
    rw [flat_next, HGF.out]
    simpa using this
   have HB8 : Hid (Below C w w7) := ((HBv.out).trans HB_w6.out).trans HB_w7.out
   clear HFv HBv HF_w6 HB_w6 HF_w7 HB_w7
   go_wp2
   go_roundw
   case measure => simp [intOf]; omega
   case rel => exact ⟨i + 1, by omega, by simp, HF8.out, HB8.out⟩
  ·have hge : ¬ ((i : Int) < (an : Int)) := by omega
   have HX : Hid (WF C wr wb gp G.vars (F ++ (List.range an).flatMap (goOnF G.vars G)) ∧ Below C w wr) := by
    refine ⟨?_, HBk.out⟩
    have := HFk.out
    rw [show i = an by omega] at this
    exact this
   go_wp2
   go_end0
   exact ⟨rfl, HX.out⟩
def alikeF (sz k : Int) (prs : List AndD) (i : Nat) : List (List Int) := match prs[i]? with
 | some d => [[-(numF sz k d.x), numF sz k d.y], [numF sz k d.x, -(numF sz k d.y)]]
 | none => []
theorem alike_any_len (sz k : Int) (prs : List AndD) (i : Nat) : (alikeF sz k prs i).length ≤ 2 := by unfold alikeF; split <;> simp
theorem alike_any (C : Nat) (w : World) (wb gp : Nat) (S : GrS) (G : GrD) (F : List (List Int)) (hW : WF C w wb gp G.vars F) (hJ : JG C w gp S G) (pa : Option Addr) (pc : Nat) (prs : List AndD) (R : RowAt C w pa 2 (prs.map AndD.cells)) (hpl : ∀ d, d ∈ prs → (0 ≤ d.x ∧ d.x ≤ 4000000) ∧ (0 ≤ d.y ∧ d.y ≤ 4000000)) (k : Int) (hk : k = 0 ∨ k = 1) (hn : F.length + 2 * prs.length ≤ 16777216) :
  Calls Try.prog 67 #[.pointer (some ⟨wb, 0, none⟩), .slice pa prs.length pc, .int .i64 (k)] w fun e w' => e = .returned (.tuple #[]) ∧ WF C w' wb gp G.vars (F ++ (List.range prs.length).flatMap (alikeF G.vars k prs)) ∧ Below C w w' := by
 have HJ := hidden hJ
 have HSZ := hidden hJ.sz
 have HW := hidden hW
 have p0 := hW.c0
 have q1 := hJ.box.c1
 have ha1 : prs.length ≤ 16777216 := by omega
 obtain ⟨an, HAN⟩ : ∃ n, Hid (n = prs.length) := ⟨_, rfl⟩
 obtain ⟨fl, HFL⟩ : ∃ n, Hid (n = F.length) := ⟨_, rfl⟩
 try rw [← HAN.out] at q1
 rw [← HAN.out] at ha1 hn
 try rw [← HAN.out]
 rw [← HFL.out] at hn
 clear hW hJ
 go_enter Try.func67, Try.ntmps67
 go_wp2_with fail
 clear p0 q1
 go_loopw [12] (fun i' w' => ∃ (i : Nat), i ≤ an ∧ i' = .int .i64 i ∧ Hid (WF C w' wb gp G.vars (F ++ (List.range i).flatMap (alikeF G.vars k prs))) ∧ Hid (Below C w w')) (fun i' _ => an - (intOf i').toNat)
 case atStart => exact ⟨0, Nat.zero_le _, rfl, by show WF _ _ _ _ _ _; simpa using HW.out, Below.refl _ _⟩
 case round =>
  obtain ⟨i, hi, rfl, HFk, HBk⟩ := hrel
  by_cases hlt : i < an
  ·have hltI : (i : Int) < (an : Int) := by omega
   obtain ⟨d, hd⟩ := getElem_lt (show i < prs.length by have := HAN.out; omega)
   obtain ⟨b, o, ea, hlb, hc⟩ := (R.to HBk.out).el hd
   have c0 : wr.cell? ⟨b, o + i * 2, none⟩ = some (.int .i64 d.x) := hc 0 _ rfl
   have c1 : wr.cell? ⟨b, o + i * 2 + 1, none⟩ = some (.int .i64 d.y) := hc 1 _ rfl
   have hdl := hpl d (List.mem_of_getElem? hd)
   have HGF : Hid (alikeF G.vars k prs i = [[-(numF G.vars k d.x), numF G.vars k d.y], [numF G.vars k d.x, -(numF G.vars k d.y)]]) := by show _ = _; unfold alikeF; rw [hd]
   obtain ⟨x, y⟩ := d
   dsimp only at c0 c1 HGF hdl
   have HK := hidden hk
   obtain ⟨X, HX⟩ : ∃ zz, Hid (zz = numF G.vars k x) := ⟨_, rfl⟩
   have hXb : -4000000 ≤ X ∧ X ≤ 4000000 := by rw [HX.out]; exact numF_le HSZ.out HK.out hdl.1
   have NX : Hid (∀ w', w'.cell? ⟨wb, 1, none⟩ = some (.int .i64 G.vars) → Calls Try.prog 77 #[.pointer (some ⟨wb, 0, none⟩), .int .i64 (x), .int .i64 (k)] w' fun e w'' => e = .returned (.int .i64 X) ∧ w'' = w') := fun w' hc => by rw [HX.out]; exact number_any w' wb G.vars k x hc HSZ.out HK.out hdl.1
   have enX : IntKind.i64.wrap (-X) = -X := wrapI _ (by omega) (by omega)
   obtain ⟨Y, HY⟩ : ∃ zz, Hid (zz = numF G.vars k y) := ⟨_, rfl⟩
   have hYb : -4000000 ≤ Y ∧ Y ≤ 4000000 := by rw [HY.out]; exact numF_le HSZ.out HK.out hdl.2
   have NY : Hid (∀ w', w'.cell? ⟨wb, 1, none⟩ = some (.int .i64 G.vars) → Calls Try.prog 77 #[.pointer (some ⟨wb, 0, none⟩), .int .i64 (y), .int .i64 (k)] w' fun e w'' => e = .returned (.int .i64 Y) ∧ w'' = w') := fun w' hc => by rw [HY.out]; exact number_any w' wb G.vars k y hc HSZ.out HK.out hdl.2
   have enY : IntKind.i64.wrap (-Y) = -Y := wrapI _ (by omega) (by omega)
   rw [← HX.out, ← HY.out] at HGF
   have HLEN : Hid ((F ++ (List.range i).flatMap (alikeF G.vars k prs)).length ≤ fl + 2 * i) := by
    have := flat_len (alikeF G.vars k prs) 2 (fun _ => alike_any_len ..) i
    have := HFL.out
    simp only [List.length_append]
    show _ ≤ _
    omega
   have e3 : IntKind.i64.wrap ((i : Int) + 1) = (i : Int) + 1 := wrapI _ (by omega) (by omega)
   rw [ea]
   clear hd hc hlb ea
   go_upto_region 3 with fail
   generalize hW5 : World.alloc wr _ = w5
   have HB5 : Hid (Below wr.heap.size wr w5) := by rw [← hW5]; exact (Below.refl _ _).alloc (Nat.le_refl _) _
   have z0 : w5.cell? ⟨wr.heap.size, 0, none⟩ = some (.int .i64 x) := by rw [← hW5]; exact cell_of_row _ _ 0 _ _ (0, 0) (heap_new _ _)
   have z1 : w5.cell? ⟨wr.heap.size, 1, none⟩ = some (.int .i64 y) := by rw [← hW5]; exact cell_of_row _ _ 1 _ _ (0, 0) (heap_new _ _)
   have hzb : wr.heap.size < w5.heap.size := by rw [← hW5]; simp
   have HCr : Hid (C ≤ wr.heap.size) := HFk.out.size
   have HF5 := hidden (HFk.out.rest HB5.out)
   have HJ5 := hidden (HJ.out.to (HBk.out.trans (HB5.out.mono HCr.out)))
   have HBw5 : Hid (Below C w w5) := HBk.out.trans (HB5.out.mono HCr.out)
   clear hW5 c0 c1
   obtain ⟨zb, HZB⟩ : ∃ z, Hid (z = wr.heap.size) := ⟨_, rfl⟩
   rw [← HZB.out] at z0 z1 hzb ⊢
   have p0 := HF5.out.c0
   have p1 : Hid (∀ w', Below w5.heap.size w5 w' → w'.cell? ⟨wb, 1, none⟩ = some (.int .i64 G.vars)) := fun w' hb => (HF5.out.rest hb).c1
   have K1 : Hid (∀ w', Below w5.heap.size w5 w' → (fun w' => w'.cell? ⟨zb, 0, none⟩ = some (.int .i64 x) ∧ w'.cell? ⟨zb, 1, none⟩ = some (.int .i64 y)) w') := fun w' hb => ⟨(hb.cell (p := ⟨zb, 0, none⟩) hzb).trans z0, (hb.cell (p := ⟨zb, 1, none⟩) hzb).trans z1⟩
   clear z0 z1 p0
   refine wp_region_noPanic ?_
   refine wp_region_held_drew (S := (fun w' => w'.cell? ⟨zb, 0, none⟩ = some (.int .i64 x) ∧ w'.cell? ⟨zb, 1, none⟩ = some (.int .i64 y))) (by kernel_rfl) (by first | assumption | exact K1.out _ (Below.refl _ _) | exact K1.out _ (Below.drew (Below.refl _ _)) | exact K1.out _ (by assumption)) (fun hHeld => ?_)
   refine tk 0 ?_
   refine tk 1 ?_
   refine tk 2 ?_
   refine tk 3 ?_
   refine tk 5 ?_
   refine tk 6 ?_
   refine tk 7 ?_
   refine tk 8 ?_
   refine wpAnyH_ready (rs := [4]) (by kernel_rfl) (by simp) ?_
   refine AllReadyH.cons (o := _) rfl (fun K hK => ?_) AllReadyH.nil
   (try simp only [gA, gB, gC])
   go_simp
   go_at_call 77
   refine (NX.out _ (p1.out _ (Below.drew (Below.refl w5.heap.size w5)))).mono ?_
   rintro e v9 ⟨rfl, hv9⟩
   rw [hv9]
   clear hv9 v9
   go_wp2_with fail
   refine hK.out _ _ (by first | assumption | exact K1.out _ (Below.refl _ _) | exact K1.out _ (Below.drew (Below.refl _ _)) | exact K1.out _ (by assumption)) (fun hHeld1 => ?_)
   clear hK K
   try simp only [Act.put, sA, sB, sC]
   refine wpAnyH_ready (rs := [9]) (by kernel_rfl) (by simp) ?_
   refine AllReadyH.cons (o := _) rfl (fun K hK => ?_) AllReadyH.nil
   (try simp only [gA, gB, gC])
   go_simp
   go_at_call 77
   refine (NY.out _ (p1.out _ (Below.drew (Below.refl w5.heap.size w5)))).mono ?_
   rintro e v9 ⟨rfl, hv9⟩
   rw [hv9]
   clear hv9 v9
   go_wp2_with fail
   refine hK.out _ _ (by first | assumption | exact K1.out _ (Below.refl _ _) | exact K1.out _ (Below.drew (Below.refl _ _)) | exact K1.out _ (by assumption)) (fun hHeld2 => ?_)
   clear hK K
   try simp only [Act.put, sA, sB, sC]
   refine tk 10 ?_
   refine tk 11 ?_
   refine wpAnyH_done (by kernel_rfl) ?_ _
   refine NoPanic.normal ?_
   try clear hHeld
   try clear hHeld1
   try clear hHeld2
   try clear hHeld3
   have HFv := hidden (HF5.out.rest (Below.drew (Below.refl w5.heap.size w5)))
   have HBv : Hid (Below C w w5.drew) := HBw5.out.trans (Below.drew (Below.refl _ _))
   generalize w5.drew = v5 at HFv HBv ⊢
   clear K1 HF5 HJ5 HBw5 HFk
   go_wp2_with fail
   go_at_call 76
   refine (say2 C _ wb gp G.vars _ HFv.out (-X) (Y) (by have := HLEN.out; (try rw [List.length_append, List.length_singleton]); omega)).mono ?_
   rintro e w6 ⟨rfl, hf_w6, hb_w6⟩
   have HF_w6 := hidden hf_w6
   have HB_w6 := hidden hb_w6
   clear hf_w6 hb_w6
   go_wp2_with fail
   go_at_call 76
   refine (say2 C _ wb gp G.vars _ HF_w6.out (X) (-Y) (by have := HLEN.out; (try rw [List.length_append, List.length_singleton]); omega)).mono ?_
   rintro e w7 ⟨rfl, hf_w7, hb_w7⟩
   have HF_w7 := hidden hf_w7
   have HB_w7 := hidden hb_w7
   clear hf_w7 hb_w7
   have HF8 : Hid (WF C w7 wb gp G.vars (F ++ (List.range (i + 1)).flatMap (alikeF G.vars k prs))) := by
    have := HF_w7.out
    show WF _ _ _ _ _ _
    rw [flat_next, HGF.out]
    simpa using this
   have HB8 : Hid (Below C w w7) := ((HBv.out).trans HB_w6.out).trans HB_w7.out
   clear HFv HBv HF_w6 HB_w6 HF_w7 HB_w7
   go_wp2
   go_roundw
   case measure => simp [intOf]; omega
   case rel => exact ⟨i + 1, by omega, by simp, HF8.out, HB8.out⟩
  ·have hge : ¬ ((i : Int) < (an : Int)) := by omega
   have HX : Hid (WF C wr wb gp G.vars (F ++ (List.range an).flatMap (alikeF G.vars k prs)) ∧ Below C w wr) := by
    refine ⟨?_, HBk.out⟩
    have := HFk.out
    rw [show i = an by omega] at this
    exact this
   go_wp2
   go_end0
   exact ⟨rfl, HX.out⟩
end Go.Proofs.Ytefjicdhccfieaa
