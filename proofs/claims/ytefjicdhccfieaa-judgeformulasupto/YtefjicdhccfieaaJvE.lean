import Derived.Test.YtefjicdhccfieaaJvD
namespace Go.Proofs.Ytefjicdhccfieaa
open Go.RowKit

set_option maxRecDepth 100000 in
set_option maxHeartbeats 8000000 in
theorem frame_doc (C : Nat) (w : World) (mb : Nat) (S : GrS) (G : GrD) (vv : Int) (F : List (List Int)) (hW : MFP C w mb S G vv F []) (hj : JnB G) (hat : GrAt C w S G) (k : Int) (hk : k = 0 ∨ k = 1) (hn : F.length + 1 + 3 * G.ands.length ≤ 16777216) :
    Calls Try.prog 53 #[.pointer (some ⟨mb, 0, none⟩), .int .i64 k] w fun e w' => e = .returned (.tuple #[]) ∧ MFP C w' mb S G vv (F ++ frameF G.vars k G) [] ∧ Below C w w' := by
  have HM0 := hidden hW
  have HJ := hidden hj
  have HGA := hidden hat
  have HK := hidden hk
  have hCw := hW.size
  have HQ0 : Hid (Below C w w) := Below.refl _ _
  obtain ⟨an, HAN⟩ : ∃ n, Hid (n = G.ands.length) := ⟨_, rfl⟩
  obtain ⟨ln, HLN⟩ : ∃ n, Hid (n = G.lats.length) := ⟨_, rfl⟩
  obtain ⟨fl, HFL⟩ : ∃ n, Hid (n = F.length) := ⟨_, rfl⟩
  rw [← HAN.out, ← HFL.out] at hn
  have b1 := hj.i0
  have b2 := hj.i1
  have b3 := hj.l1
  have b4 := hj.a1
  rw [← HLN.out] at b3
  rw [← HAN.out] at b4
  have HFS : Hid (G.first = 1 + G.ins + ln) := by rw [HLN.out]; rfl
  have HF0 : Hid (F ++ frameF G.vars k G = F ++ [[numF G.vars k 1]] ++ (List.range an).flatMap (gateF G.vars k G)) := by
    show _ = _
    rw [HAN.out]
    unfold frameF
    rw [← List.append_assoc]
    have : -(numF G.vars k 0) = numF G.vars k 1 := by unfold numF; rw [if_neg (by decide), if_pos (by decide)]; rfl
    rw [this]
  clear hW hj hat hk
  obtain ⟨Z, HZ⟩ : ∃ zz, Hid (zz = numF G.vars k (1)) := ⟨_, rfl⟩
  have hZb : -4000000 ≤ Z ∧ Z ≤ 4000000 := by rw [HZ.out]; exact numF_le HJ.out.vs HK.out (by decide)
  have NZ : Hid (∀ w', BoxAt w' mb S G → Calls Try.prog 55 #[.pointer (some ⟨mb, 0, none⟩), .int .i64 k, .int .i64 (1)] w' fun e w'' => e = .returned (.int .i64 Z) ∧ Below w'.heap.size w' w'') := fun w' hc => by rw [HZ.out]; exact at_doc w' mb S G hc HJ.out.i0 HJ.out.i1 (by have := HJ.out.l1; simp only [big]; omega) (by have := HJ.out.a1; simp only [big]; omega) HJ.out.vs k (1) HK.out (by decide)
  have enZ : IntKind.i64.wrap (-Z) = -Z := wrapI _ (by omega) (by omega)
  rw [HF0.out, ← HZ.out]
  obtain ⟨F0, HF00⟩ : ∃ z, Hid (z = F ++ [[Z]]) := ⟨_, rfl⟩
  rw [← HF00.out]
  have HL0 : Hid (F0.length = fl + 1) := by show _ = _; rw [HF00.out, HFL.out]; simp
  go_enter Try.func53, Try.ntmps53
  go_wp2_with fail
  go_at_call 55
  refine (NZ.out _ HM0.out.boxAt).mono ?_
  rintro e v1 ⟨rfl, hbx1⟩
  have HM1 := hidden (HM0.out.rest hbx1)
  have HQ1 : Hid (Below C w v1) := HQ0.out.trans (hbx1.mono HM0.out.size)
  clear hbx1
  go_wp2_with fail
  go_at_call 54
  refine (put1 C _ mb S G vv _ [] HM1.out (Z) (by have := HFL.out; omega)).mono ?_
  rintro e v2 ⟨rfl, hmx2, hbx2, -⟩
  have HM2 := hidden hmx2
  have HQ2 : Hid (Below C w v2) := HQ1.out.trans hbx2
  clear hmx2 hbx2
  rw [← HF00.out] at HM2
  go_upto_region 1 with fail
  have K1 : Hid (∀ w', Below v2.heap.size v2 w' → (fun w' => w'.cell? ⟨mb, 0, none⟩ = some (.int .i64 G.ins) ∧ w'.cell? ⟨mb, 1, none⟩ = some (.slice S.a1 ln S.c1)) w') := fun w' hb => by
    have hx := (HM2.out.rest hb).boxAt
    rw [HLN.out]
    exact ⟨hx.c0, hx.c1⟩
  have e1 : IntKind.i64.wrap (1 + G.ins) = 1 + G.ins := wrapI _ (by omega) (by omega)
  have e2 : IntKind.i64.wrap (1 + G.ins + (ln : Int)) = 1 + G.ins + (ln : Int) := wrapI _ (by omega) (by omega)
  refine wp_region_noPanic ?_
  refine wp_region_held_drew (S := (fun w' => w'.cell? ⟨mb, 0, none⟩ = some (.int .i64 G.ins) ∧ w'.cell? ⟨mb, 1, none⟩ = some (.slice S.a1 ln S.c1))) (by kernel_rfl) (by first | assumption | exact K1.out _ (Below.refl _ _) | exact K1.out _ (Below.drew (Below.refl _ _)) | exact K1.out _ (by assumption)) (fun hHeld => ?_)
  refine wpAnyH_take (i := 0) (oi := _) (v := ?_) rfl (by kernel_rfl) (by kernel_rfl) (by kernel_rfl) (fun _ _ _ h => h) (Or.inl ⟨by rfl, ?_⟩) (by assumption) ?_
  rotate_left
  · (intro w0 hSw; (try dsimp only at hSw); (try simp only [List.getElem_toArray, List.getElem_cons_zero]); go_simp; try (with_reducible rfl))
  try simp only [Act.put, List.getElem_toArray, List.getElem_cons_zero, List.setIfInBounds_toArray, List.set_cons_zero, List.set_cons_succ]
  refine wpAnyH_take (i := 1) (oi := _) (v := ?_) rfl (by kernel_rfl) (by kernel_rfl) (by kernel_rfl) (fun _ _ _ h => h) (Or.inl ⟨by rfl, ?_⟩) (by assumption) ?_
  rotate_left
  · (intro w0 hSw; (try dsimp only at hSw); (try simp only [List.getElem_toArray, List.getElem_cons_zero, List.getElem_cons_succ]); go_simp; try (with_reducible rfl))
  try simp only [Act.put, List.getElem_toArray, List.getElem_cons_zero, List.getElem_cons_succ, List.setIfInBounds_toArray, List.set_cons_zero, List.set_cons_succ]
  refine wpAnyH_take (i := 2) (oi := _) (v := ?_) rfl (by kernel_rfl) (by kernel_rfl) (by kernel_rfl) (fun _ _ _ h => h) (Or.inl ⟨by rfl, ?_⟩) (by assumption) ?_
  rotate_left
  · (intro w0 hSw; (try dsimp only at hSw); (try simp only [List.getElem_toArray, List.getElem_cons_zero, List.getElem_cons_succ]); go_simp; try (with_reducible rfl))
  try simp only [Act.put, List.getElem_toArray, List.getElem_cons_zero, List.getElem_cons_succ, List.setIfInBounds_toArray, List.set_cons_zero, List.set_cons_succ]
  refine wpAnyH_take (i := 3) (oi := _) (v := ?_) rfl (by kernel_rfl) (by kernel_rfl) (by kernel_rfl) (fun _ _ _ h => h) (Or.inl ⟨by rfl, ?_⟩) (by assumption) ?_
  rotate_left
  · (intro w0 hSw; (try dsimp only at hSw); (try simp only [List.getElem_toArray, List.getElem_cons_zero, List.getElem_cons_succ]); go_simp; try (with_reducible rfl))
  try simp only [Act.put, List.getElem_toArray, List.getElem_cons_zero, List.getElem_cons_succ, List.setIfInBounds_toArray, List.set_cons_zero, List.set_cons_succ]
  refine wpAnyH_take (i := 4) (oi := _) (v := ?_) rfl (by kernel_rfl) (by kernel_rfl) (by kernel_rfl) (fun _ _ _ h => h) (Or.inl ⟨by rfl, ?_⟩) (by assumption) ?_
  rotate_left
  · (intro w0 hSw; (try dsimp only at hSw); (try simp only [List.getElem_toArray, List.getElem_cons_zero, List.getElem_cons_succ]); go_simp; try (with_reducible rfl))
  try simp only [Act.put, List.getElem_toArray, List.getElem_cons_zero, List.getElem_cons_succ, List.setIfInBounds_toArray, List.set_cons_zero, List.set_cons_succ]
  refine wpAnyH_take (i := 5) (oi := _) (v := ?_) rfl (by kernel_rfl) (by kernel_rfl) (by kernel_rfl) (fun _ _ _ h => h) (Or.inl ⟨by rfl, ?_⟩) (by assumption) ?_
  rotate_left
  · (intro w0 hSw; (try dsimp only at hSw); (try simp only [List.getElem_toArray, List.getElem_cons_zero, List.getElem_cons_succ]); go_simp; try (with_reducible rfl))
  try simp only [Act.put, List.getElem_toArray, List.getElem_cons_zero, List.getElem_cons_succ, List.setIfInBounds_toArray, List.set_cons_zero, List.set_cons_succ]
  refine wpAnyH_take (i := 6) (oi := _) (v := ?_) rfl (by kernel_rfl) (by kernel_rfl) (by kernel_rfl) (fun _ _ _ h => h) (Or.inl ⟨by rfl, ?_⟩) (by assumption) ?_
  rotate_left
  · (intro w0 hSw; (try dsimp only at hSw); (try simp only [List.getElem_toArray, List.getElem_cons_zero, List.getElem_cons_succ]); go_simp; try (with_reducible rfl))
  try simp only [Act.put, List.getElem_toArray, List.getElem_cons_zero, List.getElem_cons_succ, List.setIfInBounds_toArray, List.set_cons_zero, List.set_cons_succ]
  refine wpAnyH_take (i := 7) (oi := _) (v := ?_) rfl (by kernel_rfl) (by kernel_rfl) (by kernel_rfl) (fun _ _ _ h => h) (Or.inl ⟨by rfl, ?_⟩) (by assumption) ?_
  rotate_left
  · (intro w0 hSw; (try dsimp only at hSw); (try simp only [List.getElem_toArray, List.getElem_cons_zero, List.getElem_cons_succ]); go_simp; try (with_reducible rfl))
  try simp only [Act.put, List.getElem_toArray, List.getElem_cons_zero, List.getElem_cons_succ, List.setIfInBounds_toArray, List.set_cons_zero, List.set_cons_succ]
  refine wpAnyH_take (i := 8) (oi := _) (v := ?_) rfl (by kernel_rfl) (by kernel_rfl) (by kernel_rfl) (fun _ _ _ h => h) (Or.inl ⟨by rfl, ?_⟩) (by assumption) ?_
  rotate_left
  · (intro w0 hSw; (try dsimp only at hSw); (try simp only [List.getElem_toArray, List.getElem_cons_zero, List.getElem_cons_succ]); go_simp; try (with_reducible rfl))
  try simp only [Act.put, List.getElem_toArray, List.getElem_cons_zero, List.getElem_cons_succ, List.setIfInBounds_toArray, List.set_cons_zero, List.set_cons_succ]
  refine wpAnyH_take (i := 9) (oi := _) (v := ?_) rfl (by kernel_rfl) (by kernel_rfl) (by kernel_rfl) (fun _ _ _ h => h) (Or.inl ⟨by rfl, ?_⟩) (by assumption) ?_
  rotate_left
  · (intro w0 hSw; (try dsimp only at hSw); (try simp only [List.getElem_toArray, List.getElem_cons_zero, List.getElem_cons_succ]); go_simp; try (with_reducible rfl))
  try simp only [Act.put, List.getElem_toArray, List.getElem_cons_zero, List.getElem_cons_succ, List.setIfInBounds_toArray, List.set_cons_zero, List.set_cons_succ]
  refine wpAnyH_take (i := 10) (oi := _) (v := ?_) rfl (by kernel_rfl) (by kernel_rfl) (by kernel_rfl) (fun _ _ _ h => h) (Or.inl ⟨by rfl, ?_⟩) (by assumption) ?_
  rotate_left
  · (intro w0 hSw; (try dsimp only at hSw); (try simp only [List.getElem_toArray, List.getElem_cons_zero, List.getElem_cons_succ]); go_simp; try (with_reducible rfl))
  try simp only [Act.put, List.getElem_toArray, List.getElem_cons_zero, List.getElem_cons_succ, List.setIfInBounds_toArray, List.set_cons_zero, List.set_cons_succ]
  refine wpAnyH_take (i := 11) (oi := _) (v := ?_) rfl (by kernel_rfl) (by kernel_rfl) (by kernel_rfl) (fun _ _ _ h => h) (Or.inl ⟨by rfl, ?_⟩) (by assumption) ?_
  rotate_left
  · (intro w0 hSw; (try dsimp only at hSw); (try simp only [List.getElem_toArray, List.getElem_cons_zero, List.getElem_cons_succ]); go_simp; try (with_reducible rfl))
  try simp only [Act.put, List.getElem_toArray, List.getElem_cons_zero, List.getElem_cons_succ, List.setIfInBounds_toArray, List.set_cons_zero, List.set_cons_succ]
  refine wpAnyH_take (i := 12) (oi := _) (v := ?_) rfl (by kernel_rfl) (by kernel_rfl) (by kernel_rfl) (fun _ _ _ h => h) (Or.inl ⟨by rfl, ?_⟩) (by assumption) ?_
  rotate_left
  · (intro w0 hSw; (try dsimp only at hSw); (try simp only [List.getElem_toArray, List.getElem_cons_zero, List.getElem_cons_succ]); go_simp; try (with_reducible rfl))
  try simp only [Act.put, List.getElem_toArray, List.getElem_cons_zero, List.getElem_cons_succ, List.setIfInBounds_toArray, List.set_cons_zero, List.set_cons_succ]
  refine wpAnyH_take (i := 13) (oi := _) (v := ?_) rfl (by kernel_rfl) (by kernel_rfl) (by kernel_rfl) (fun _ _ _ h => h) (Or.inl ⟨by rfl, ?_⟩) (by assumption) ?_
  rotate_left
  · (intro w0 hSw; (try dsimp only at hSw); (try simp only [List.getElem_toArray, List.getElem_cons_zero, List.getElem_cons_succ]); go_simp; try (with_reducible rfl))
  try simp only [Act.put, List.getElem_toArray, List.getElem_cons_zero, List.getElem_cons_succ, List.setIfInBounds_toArray, List.set_cons_zero, List.set_cons_succ]
  refine wpAnyH_done (by kernel_rfl) ?_ _
  refine NoPanic.normal ?_
  have HM3 : Hid (MFP C v2.drew mb S G vv F0 []) := HM2.out.rest (Below.drew (Below.refl _ _))
  have HQ3 : Hid (Below C w v2.drew) := Below.drew HQ2.out
  clear K1 e1 e2 HM0 HM1 HM2 HQ0 HQ1 HQ2
  obtain ⟨fs, HFF1⟩ : ∃ z, Hid (z = 1 + G.ins + (ln : Int)) := ⟨_, rfl⟩
  rw [← HFF1.out]
  have hfs : 0 ≤ fs ∧ fs ≤ 100000 := by rw [HFF1.out]; omega
  rw [← HFF1.out] at HFS
  generalize v2.drew = V at *
  go_wp2_with fail
  go_loopw [5] (fun i' w' => ∃ (i : Nat), i ≤ an ∧ i' = .int .i64 i ∧ Hid (MFP C w' mb S G vv (F0 ++ (List.range i).flatMap (gateF G.vars k G)) []) ∧ Hid (Below C w w')) (fun i' _ => an - (intOf i').toNat)
  case atStart => exact ⟨0, Nat.zero_le _, rfl, by show MFP _ _ _ _ _ _ _ _; simpa using HM3.out, HQ3.out⟩
  case round =>
    clear HM3 HQ3
    obtain ⟨i, hi, rfl, HM0, HQ0⟩ := hrel
    have g2 : wr.cell? ⟨mb, 2, none⟩ = some (.slice S.a2 an S.c2) := by rw [HAN.out]; exact HM0.out.boxAt.c2
    by_cases hlt : i < an
    · have hltI : (i : Int) < (an : Int) := by omega
      obtain ⟨d, hd⟩ := getElem_lt (show i < G.ands.length by have := HAN.out; omega)
      obtain ⟨b, o, ea, hlb, hc⟩ := (HGA.out.a.to HQ0.out).el hd
      have HC0 : Hid (∀ w', Below C wr w' → w'.cell? ⟨b, o + i * 2, none⟩ = some (.int .i64 d.x)) := fun w' hb => (hb.cell (p := ⟨b, o + i * 2, none⟩) hlb).trans (hc 0 _ rfl)
      have HC1 : Hid (∀ w', Below C wr w' → w'.cell? ⟨b, o + i * 2 + 1, none⟩ = some (.int .i64 d.y)) := fun w' hb => (hb.cell (p := ⟨b, o + i * 2 + 1, none⟩) hlb).trans (hc 1 _ rfl)
      have HG2 : Hid (∀ w', MFP C w' mb S G vv (F0 ++ (List.range i).flatMap (gateF G.vars k G)) [] → w'.cell? ⟨mb, 2, none⟩ = some (.slice (some ⟨b, o, none⟩) an S.c2)) := fun w' hm => by rw [HAN.out, ← ea]; exact hm.boxAt.c2
      have hdl := HJ.out.andL d (List.mem_of_getElem? hd)
      have HGF : Hid (gateF G.vars k G i = [[-(numF G.vars k (2 * (fs + (i : Int)))), numF G.vars k d.x], [-(numF G.vars k (2 * (fs + (i : Int)))), numF G.vars k d.y], [numF G.vars k (2 * (fs + (i : Int))), -(numF G.vars k d.x), -(numF G.vars k d.y)]]) := by show _ = _; unfold gateF; rw [hd, HFS.out]
      obtain ⟨x, y⟩ := d
      dsimp only at HC0 HC1 HGF hdl
      obtain ⟨X, HX⟩ : ∃ zz, Hid (zz = numF G.vars k (2 * (fs + (i : Int)))) := ⟨_, rfl⟩
      have hXb : -4000000 ≤ X ∧ X ≤ 4000000 := by rw [HX.out]; exact numF_le HJ.out.vs HK.out (by omega)
      have NX : Hid (∀ w', BoxAt w' mb S G → Calls Try.prog 55 #[.pointer (some ⟨mb, 0, none⟩), .int .i64 k, .int .i64 (2 * (fs + (i : Int)))] w' fun e w'' => e = .returned (.int .i64 X) ∧ Below w'.heap.size w' w'') := fun w' hc => by rw [HX.out]; exact at_doc w' mb S G hc HJ.out.i0 HJ.out.i1 (by have := HJ.out.l1; simp only [big]; omega) (by have := HJ.out.a1; simp only [big]; omega) HJ.out.vs k (2 * (fs + (i : Int))) HK.out (by omega)
      have enX : IntKind.i64.wrap (-X) = -X := wrapI _ (by omega) (by omega)
      obtain ⟨P, HP⟩ : ∃ zz, Hid (zz = numF G.vars k (x)) := ⟨_, rfl⟩
      have hPb : -4000000 ≤ P ∧ P ≤ 4000000 := by rw [HP.out]; exact numF_le HJ.out.vs HK.out hdl.1
      have NP : Hid (∀ w', BoxAt w' mb S G → Calls Try.prog 55 #[.pointer (some ⟨mb, 0, none⟩), .int .i64 k, .int .i64 (x)] w' fun e w'' => e = .returned (.int .i64 P) ∧ Below w'.heap.size w' w'') := fun w' hc => by rw [HP.out]; exact at_doc w' mb S G hc HJ.out.i0 HJ.out.i1 (by have := HJ.out.l1; simp only [big]; omega) (by have := HJ.out.a1; simp only [big]; omega) HJ.out.vs k (x) HK.out hdl.1
      have enP : IntKind.i64.wrap (-P) = -P := wrapI _ (by omega) (by omega)
      obtain ⟨Q, HQ⟩ : ∃ zz, Hid (zz = numF G.vars k (y)) := ⟨_, rfl⟩
      have hQb : -4000000 ≤ Q ∧ Q ≤ 4000000 := by rw [HQ.out]; exact numF_le HJ.out.vs HK.out hdl.2
      have NQ : Hid (∀ w', BoxAt w' mb S G → Calls Try.prog 55 #[.pointer (some ⟨mb, 0, none⟩), .int .i64 k, .int .i64 (y)] w' fun e w'' => e = .returned (.int .i64 Q) ∧ Below w'.heap.size w' w'') := fun w' hc => by rw [HQ.out]; exact at_doc w' mb S G hc HJ.out.i0 HJ.out.i1 (by have := HJ.out.l1; simp only [big]; omega) (by have := HJ.out.a1; simp only [big]; omega) HJ.out.vs k (y) HK.out hdl.2
      have enQ : IntKind.i64.wrap (-Q) = -Q := wrapI _ (by omega) (by omega)
      rw [← HX.out, ← HP.out, ← HQ.out] at HGF
      have HLEN : Hid ((F0 ++ (List.range i).flatMap (gateF G.vars k G)).length ≤ fl + 1 + 3 * i) := by
        have := flat_len (gateF G.vars k G) 3 (gateF_len _ _ _) i
        have := HL0.out
        simp only [List.length_append]
        show _ ≤ _
        omega
      have e3 : IntKind.i64.wrap ((i : Int) + 1) = (i : Int) + 1 := wrapI _ (by omega) (by omega)
      have e4 : IntKind.i64.wrap (fs + (i : Int)) = fs + (i : Int) := wrapI _ (by omega) (by omega)
      have e5 : IntKind.i64.wrap (2 * (fs + (i : Int))) = 2 * (fs + (i : Int)) := wrapI _ (by omega) (by omega)
      clear hd hc hlb ea
      obtain ⟨FF, HFF⟩ : ∃ z, Hid (z = (F0 ++ (List.range i).flatMap (gateF G.vars k G))) := ⟨_, rfl⟩
      rw [← HFF.out] at HM0 HLEN HG2
      go_wp2_with fail
      go_at_call 55
      refine (NX.out _ HM0.out.boxAt).mono ?_
      rintro e v1 ⟨rfl, hbx1⟩
      have HM1 := hidden (HM0.out.rest hbx1)
      have HQ1 : Hid (Below C w v1) := HQ0.out.trans (hbx1.mono HM0.out.size)
      have c0 := HC0.out _ (hbx1.mono HM0.out.size)
      have g2 := HG2.out _ HM1.out
      have hB1 : Below C wr v1 := hbx1.mono HM0.out.size
      clear hbx1
      go_wp2_with fail
      go_at_call 55
      refine (NP.out _ HM1.out.boxAt).mono ?_
      rintro e v2 ⟨rfl, hbx2⟩
      have HM2 := hidden (HM1.out.rest hbx2)
      have HQ2 : Hid (Below C w v2) := HQ1.out.trans (hbx2.mono HM1.out.size)
      have hB2 : Below C wr v2 := hB1.trans (hbx2.mono HM1.out.size)
      have c1 := HC1.out _ hB2
      have g2 := HG2.out _ HM2.out
      clear c0 hbx2 hB1 hB2
      go_wp2_with fail
      go_at_call 55
      refine (NQ.out _ HM2.out.boxAt).mono ?_
      rintro e v3 ⟨rfl, hbx3⟩
      have HM3 := hidden (HM2.out.rest hbx3)
      have HQ3 : Hid (Below C w v3) := HQ2.out.trans (hbx3.mono HM2.out.size)
      clear c1 hbx3
      go_wp2_with fail
      go_at_call 54
      refine (put2 C _ mb S G vv _ [] HM3.out (-X) (P) (by have := HLEN.out; omega)).mono ?_
      rintro e v4 ⟨rfl, hmx4, hbx4, -⟩
      have HM4 := hidden hmx4
      have HQ4 : Hid (Below C w v4) := HQ3.out.trans hbx4
      clear hmx4 hbx4
      go_wp2_with fail
      go_at_call 54
      refine (put2 C _ mb S G vv _ [] HM4.out (-X) (Q) (by have := HLEN.out; simp only [List.length_append, List.length_cons, List.length_nil]; omega)).mono ?_
      rintro e v5 ⟨rfl, hmx5, hbx5, -⟩
      have HM5 := hidden hmx5
      have HQ5 : Hid (Below C w v5) := HQ4.out.trans hbx5
      clear hmx5 hbx5
      go_wp2_with fail
      go_at_call 54
      refine (put3 C _ mb S G vv _ [] HM5.out (X) (-P) (-Q) (by have := HLEN.out; simp only [List.length_append, List.length_cons, List.length_nil]; omega)).mono ?_
      rintro e v6 ⟨rfl, hmx6, hbx6, -⟩
      have HM6 := hidden hmx6
      have HQ6 : Hid (Below C w v6) := HQ5.out.trans hbx6
      clear hmx6 hbx6
      have HM9 : Hid (MFP C v6 mb S G vv (F0 ++ (List.range (i + 1)).flatMap (gateF G.vars k G)) []) := by
        have := HM6.out
        rw [HFF.out] at this
        show MFP _ _ _ _ _ _ _ _
        rw [flat_next, ← List.append_assoc, HGF.out]
        simpa using this
      clear HM0 HM1 HM2 HM3 HM4 HM5 HM6
      go_wp2
      go_roundw
      case measure => simp [intOf]; omega
      case rel => exact ⟨i + 1, by omega, by simp, HM9.out, HQ6.out⟩
    · have hge : ¬ ((i : Int) < (an : Int)) := by omega
      have HME : Hid (MFP C wr mb S G vv (F0 ++ (List.range an).flatMap (gateF G.vars k G)) []) := by rw [show an = i by omega]; exact HM0.out
      clear HM0
      go_wp2
      go_end0
      exact ⟨rfl, HME.out, HQ0.out⟩

end Go.Proofs.Ytefjicdhccfieaa
