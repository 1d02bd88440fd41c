import Derived.Test.YtefjicdhccfieaaJvC
import Derived.Test.YtefjicdhccfieaaJuQb
import Derived.Test.YtefjicdhccfieaaJuH
namespace Go.Proofs.Ytefjicdhccfieaa
open Go.RowKit

set_option maxRecDepth 100000 in
set_option maxHeartbeats 8000000 in
theorem same_doc (C : Nat) (w : World) (mb : Nat) (S : GrS) (G : GrD) (vv : Int) (F : List (List Int)) (hW : MFP C w mb S G vv F []) (hj : JnB G) (pa : Option Addr) (pc : Nat) (prs : List AndD) (R : RowAt C w pa 2 (prs.map AndD.cells)) (hpl : ∀ d, d ∈ prs → (0 ≤ d.x ∧ d.x ≤ 4000000) ∧ (0 ≤ d.y ∧ d.y ≤ 4000000)) (k : Int) (hk : k = 0 ∨ k = 1) (hn : F.length + 2 * prs.length ≤ 16777216) :
    Calls Try.prog 57 #[.pointer (some ⟨mb, 0, none⟩), .int .i64 k, .slice pa prs.length pc] w fun e w' => e = .returned (.tuple #[]) ∧ MFP C w' mb S G vv (F ++ (List.range prs.length).flatMap (alikeF G.vars k prs)) [] ∧ Below C w w' := by
  have HW := hidden hW
  have HJ := hidden hj
  have HR := hidden R
  have HPL := hidden hpl
  have HK := hidden hk
  have hCw := hW.size
  obtain ⟨an, HAN⟩ : ∃ n, Hid (n = prs.length) := ⟨_, rfl⟩
  obtain ⟨fl, HFL⟩ : ∃ n, Hid (n = F.length) := ⟨_, rfl⟩
  rw [← HAN.out, ← HFL.out] at hn
  rw [← HAN.out]
  clear hW hj R hpl hk
  go_enter Try.func57, Try.ntmps57
  go_wp2_with fail
  go_loopw [6] (fun i' w' => ∃ (i : Nat), i ≤ an ∧ i' = .int .i64 i ∧ Hid (MFP C w' mb S G vv (F ++ (List.range i).flatMap (alikeF G.vars k prs)) []) ∧ Hid (Below C w w')) (fun i' _ => an - (intOf i').toNat)
  case atStart => exact ⟨0, Nat.zero_le _, rfl, by show MFP _ _ _ _ _ _ _ _; simpa using HW.out, Below.refl _ _⟩
  case round =>
    obtain ⟨i, hi, rfl, HM0, HQ0⟩ := hrel
    by_cases hlt : i < an
    · have hltI : (i : Int) < (an : Int) := by omega
      obtain ⟨d, hd⟩ := getElem_lt (show i < prs.length by have := HAN.out; omega)
      obtain ⟨b, o, ea, hlb, hc⟩ := (HR.out.to HQ0.out).el hd
      have c0 : wr.cell? ⟨b, o + i * 2, none⟩ = some (.int .i64 d.x) := hc 0 _ rfl
      have HC1 : Hid (∀ w', Below C wr w' → w'.cell? ⟨b, o + i * 2 + 1, none⟩ = some (.int .i64 d.y)) := fun w' hb => (hb.cell (p := ⟨b, o + i * 2 + 1, none⟩) hlb).trans (hc 1 _ rfl)
      have hdl := HPL.out d (List.mem_of_getElem? hd)
      have HGF : Hid (alikeF G.vars k prs i = [[-(numF G.vars k d.x), numF G.vars k d.y], [numF G.vars k d.x, -(numF G.vars k d.y)]]) := by show _ = _; unfold alikeF; rw [hd]
      obtain ⟨x, y⟩ := d
      dsimp only at c0 HC1 HGF hdl
      obtain ⟨X, HX⟩ : ∃ zz, Hid (zz = numF G.vars k (x)) := ⟨_, rfl⟩
      have hXb : -4000000 ≤ X ∧ X ≤ 4000000 := by rw [HX.out]; exact numF_le HJ.out.vs HK.out hdl.1
      have NX : Hid (∀ w', BoxAt w' mb S G → Calls Try.prog 55 #[.pointer (some ⟨mb, 0, none⟩), .int .i64 k, .int .i64 (x)] w' fun e w'' => e = .returned (.int .i64 X) ∧ Below w'.heap.size w' w'') := fun w' hc => by rw [HX.out]; exact at_doc w' mb S G hc HJ.out.i0 HJ.out.i1 (by have := HJ.out.l1; simp only [big]; omega) (by have := HJ.out.a1; simp only [big]; omega) HJ.out.vs k (x) HK.out hdl.1
      have enX : IntKind.i64.wrap (-X) = -X := wrapI _ (by omega) (by omega)
      obtain ⟨Y, HY⟩ : ∃ zz, Hid (zz = numF G.vars k (y)) := ⟨_, rfl⟩
      have hYb : -4000000 ≤ Y ∧ Y ≤ 4000000 := by rw [HY.out]; exact numF_le HJ.out.vs HK.out hdl.2
      have NY : Hid (∀ w', BoxAt w' mb S G → Calls Try.prog 55 #[.pointer (some ⟨mb, 0, none⟩), .int .i64 k, .int .i64 (y)] w' fun e w'' => e = .returned (.int .i64 Y) ∧ Below w'.heap.size w' w'') := fun w' hc => by rw [HY.out]; exact at_doc w' mb S G hc HJ.out.i0 HJ.out.i1 (by have := HJ.out.l1; simp only [big]; omega) (by have := HJ.out.a1; simp only [big]; omega) HJ.out.vs k (y) HK.out hdl.2
      have enY : IntKind.i64.wrap (-Y) = -Y := wrapI _ (by omega) (by omega)
      rw [← HX.out, ← HY.out] at HGF
      have HLEN : Hid ((F ++ (List.range i).flatMap (alikeF G.vars k prs)).length ≤ fl + 2 * i) := by
        have := flat_len (alikeF G.vars k prs) 2 (fun _ => alike_any_len ..) i
        have := HFL.out
        simp only [List.length_append]
        show _ ≤ _
        omega
      have e3 : IntKind.i64.wrap ((i : Int) + 1) = (i : Int) + 1 := wrapI _ (by omega) (by omega)
      rw [ea]
      clear hd hc hlb ea
      obtain ⟨FF, HFF⟩ : ∃ z, Hid (z = (F ++ (List.range i).flatMap (alikeF G.vars k prs))) := ⟨_, rfl⟩
      rw [← HFF.out] at HM0 HLEN
      go_wp2_with fail
      go_at_call 55
      refine (NX.out _ HM0.out.boxAt).mono ?_
      rintro e v1 ⟨rfl, hbx1⟩
      have HM1 := hidden (HM0.out.rest hbx1)
      have HQ1 : Hid (Below C w v1) := HQ0.out.trans (hbx1.mono HM0.out.size)
      have c1 := HC1.out _ (hbx1.mono HM0.out.size)
      clear c0 hbx1
      go_wp2_with fail
      go_at_call 55
      refine (NY.out _ HM1.out.boxAt).mono ?_
      rintro e v2 ⟨rfl, hbx2⟩
      have HM2 := hidden (HM1.out.rest hbx2)
      have HQ2 : Hid (Below C w v2) := HQ1.out.trans (hbx2.mono HM1.out.size)
      clear c1 hbx2
      go_wp2_with fail
      go_at_call 54
      refine (put2 C _ mb S G vv _ [] HM2.out (-X) (Y) (by have := HLEN.out; omega)).mono ?_
      rintro e v3 ⟨rfl, hmx3, hbx3, -⟩
      have HM3 := hidden hmx3
      have HQ3 : Hid (Below C w v3) := HQ2.out.trans hbx3
      clear hmx3 hbx3
      go_wp2_with fail
      go_at_call 54
      refine (put2 C _ mb S G vv _ [] HM3.out (X) (-Y) (by have := HLEN.out; simp only [List.length_append, List.length_cons, List.length_nil]; omega)).mono ?_
      rintro e v4 ⟨rfl, hmx4, hbx4, -⟩
      have HM4 := hidden hmx4
      have HQ4 : Hid (Below C w v4) := HQ3.out.trans hbx4
      clear hmx4 hbx4
      have HM9 : Hid (MFP C v4 mb S G vv (F ++ (List.range (i + 1)).flatMap (alikeF G.vars k prs)) []) := by
        have := HM4.out
        rw [HFF.out] at this
        show MFP _ _ _ _ _ _ _ _
        rw [List.range_succ, List.flatMap_append, ← List.append_assoc, List.flatMap_singleton, HGF.out]
        simpa using this
      clear HM4 HM0 HM1 HM2 HM3
      go_wp2
      go_roundw
      case measure => simp [intOf]; omega
      case rel => exact ⟨i + 1, by omega, by simp, HM9.out, HQ4.out⟩
    · have hge : ¬ ((i : Int) < (an : Int)) := by omega
      have HME : Hid (MFP C wr mb S G vv (F ++ (List.range an).flatMap (alikeF G.vars k prs)) []) := by rw [show an = i by omega]; exact HM0.out
      clear HM0
      go_wp2
      go_end0
      exact ⟨rfl, HME.out, HQ0.out⟩

end Go.Proofs.Ytefjicdhccfieaa
