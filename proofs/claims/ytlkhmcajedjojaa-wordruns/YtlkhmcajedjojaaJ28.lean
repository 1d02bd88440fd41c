import Derived.Test.YtlkhmcajedjojaaJ27
namespace Go.Proofs.Ytlkhmcajedjojaa
open Go.RowKit

set_option maxRecDepth 100000 in
set_option maxHeartbeats 8000000 in
theorem ckRegs (wc : World) (N : NetD) (C mk nbk : Nat) (hCw : C ≤ wc.heap.size) (hmk : mk < wc.heap.size) (m0 : wc.cell? ⟨mk, 0, none⟩ = some (.pointer (some ⟨nbk, 0, none⟩))) (a2 : Option Addr) (c2 : Nat) (q2 : wc.cell? ⟨nbk, 2, none⟩ = some (.slice a2 N.regs.length c2)) (hnbk : nbk < C) (HR : Hid (RowAt C wc a2 3 (N.regs.map RegD.cells))) (g cap : Nat) (hgC : C ≤ g) (hmg : g ≠ mk) (m2 : wc.cell? ⟨mk, 2, none⟩ = some (.slice (some ⟨g, 0, none⟩) N.regs.length cap)) (regs : List Nat) (hrl : regs.length = N.regs.length) (HO0 : Hid (wc.ownsRow C 33 1 (.slice (some ⟨g, 0, none⟩) N.regs.length cap) N.regs.length (regs.map uV))) (vs : List Nat) (vb vo cv : Nat) (m1 : wc.cell? ⟨mk, 1, none⟩ = some (.slice (some ⟨vb, vo, none⟩) vs.length cv)) (hvb : vb < wc.heap.size) (hsep : g ≠ vb) (HV : Hid (∀ (i x : Nat), vs[i]? = some x → wc.cell? ⟨vb, vo + i, none⟩ = some (.int .u64 (x : Int)))) (hin : ∀ z, z ∈ N.regs → 0 ≤ z.next ∧ z.next < (vs.length : Int)) (hlen : N.regs.length < 17592186044416) (K' : Act → World → Prop) (Q0 : Exit → Act → World → Prop) (x1 x2 x3 x4 x5 x6 x7 x8 x9 x10 x11 x12 x13 x16 x17 x18 x19 x20 x21 x22 x23 x24 x25 x26 x27 x28 x29 x30 x31 x32 x33 x34 x35 x36 x37 x38 x39 x40 x41 x42 x43 x44 x45 x46 x47 x48 x49 x50 x51 x52 x53 x54 x55 x56 x57 x58 x59 x60 x61 x62 x63 x64 x65 x66 x67 x68 x69 x70 x71 x72 x73 x74 x75 x76 x77 x78 x79 x80 x81 x82 x83 x84 x85 x86 x87 x88 x89 x90 x91 x92 x93 x94 x95 x96 x97 x98 x99 x100 x101 x102 x103 x104 x105 x106 x107 x108 x109 x110 x111 x112 x113 : Value)
    (HK : Hid (∀ (w' : World) (s2 s15 s16 s17 s18 s19 s20 s21 s22 s23 s24 s25 s26 s27 s28 s29 s30 s31 s32 s33 s34 s35 s36 s37 s38 s39 s40 s41 : Value), (w'.ownsRow C 33 1 (.slice (some ⟨g, 0, none⟩) N.regs.length cap) N.regs.length ((N.regs.map fun z => vAt vs z.next).map uV) ∧ wc.grownBy w' (some g)) → K' ⟨#[.pointer (some ⟨mk, 0, none⟩), x1, s2, x3, x4, x5, x6, x7, x8, x9, x10, x11, x12, x13, .int .i64 (N.regs.length : Int), s15, s16, s17, s18, s19, s20, s21, s22, s23, s24, s25, s26, s27, s28, s29, s30, s31, s32, s33, s34, s35, s36, s37, s38, s39, s40, s41, x42, x43, x44, x45, x46, x47, x48, x49, x50, x51, x52, x53, x54, x55, x56, x57, x58, x59, x60, x61, x62, x63, x64, x65, x66, x67, x68, x69, x70, x71, x72, x73, x74, x75, x76, x77, x78, x79, x80, x81, x82, x83, x84, x85, x86, x87, x88, x89, x90, x91, x92, x93, x94, x95, x96, x97, x98, x99, x100, x101, x102, x103, x104, x105, x106, x107, x108, x109, x110, x111, x112, x113], []⟩ w')) :
    Code.wp Try.prog ((Try.f35.body.bind (blockAt 0)).getD .skip) (Exit.then K' Q0) ⟨#[.pointer (some ⟨mk, 0, none⟩), x1, x2, x3, x4, x5, x6, x7, x8, x9, x10, x11, x12, x13, .int .i64 (N.regs.length : Int), .int .i64 0, x16, x17, x18, x19, x20, x21, x22, x23, x24, x25, x26, x27, x28, x29, x30, x31, x32, x33, x34, x35, x36, x37, x38, x39, x40, x41, x42, x43, x44, x45, x46, x47, x48, x49, x50, x51, x52, x53, x54, x55, x56, x57, x58, x59, x60, x61, x62, x63, x64, x65, x66, x67, x68, x69, x70, x71, x72, x73, x74, x75, x76, x77, x78, x79, x80, x81, x82, x83, x84, x85, x86, x87, x88, x89, x90, x91, x92, x93, x94, x95, x96, x97, x98, x99, x100, x101, x102, x103, x104, x105, x106, x107, x108, x109, x110, x111, x112, x113], []⟩ wc := by
  conv => arg 2; whnf
  have HC : Hid (∀ k, some g = some k → C ≤ k) := fun k hk => by cases hk; exact hgC
  go_wp2_with fail
  go_loopw [15] (fun i' w' => ∃ (k : Nat), k ≤ N.regs.length ∧ i' = .int .i64 k ∧ Hid (w'.ownsRow C 33 1 (.slice (some ⟨g, 0, none⟩) N.regs.length cap) N.regs.length ((((N.regs.take k).map fun z => vAt vs z.next) ++ regs.drop k).map uV)) ∧ Hid (wc.grownBy w' (some g))) (fun i' _ => N.regs.length - (intOf i').toNat)
  case atStart => exact ⟨0, Nat.zero_le _, rfl, by show World.ownsRow _ _ _ _ _ _ _; simpa using HO0.out, grown_refl _ _⟩
  case round =>
    obtain ⟨k, hk, rfl, HO, HG⟩ := hrel
    have hbm := HG.out.block mk hmk (by intro e; exact hmg (by simpa using e.symm))
    have m0R := (World.cell?_of_block (w := wc) (a := ⟨mk, 0, none⟩) hbm).trans m0
    have m1R := (World.cell?_of_block (w := wc) (a := ⟨mk, 1, none⟩) hbm).trans m1
    have m2R := (World.cell?_of_block (w := wc) (a := ⟨mk, 2, none⟩) hbm).trans m2
    have q2R := (below_grown HG.out hCw HC.out).cell (p := ⟨nbk, 2, none⟩) hnbk |>.trans q2
    by_cases hlt : k < N.regs.length
    · obtain ⟨z, hz⟩ : ∃ z, N.regs[k]? = some z := ⟨N.regs[k], List.getElem?_eq_getElem hlt⟩
      obtain ⟨rb, ro, ea, hrb, hrc⟩ := HR.out.el hz
      have c2 := ((below_grown HG.out hCw HC.out).cell (p := ⟨rb, ro + k * 3 + 2, none⟩) hrb).trans (hrc 2 _ rfl)
      have hr := hin z (List.mem_of_getElem? hz)
      obtain ⟨y, hy⟩ : ∃ y, vs[z.next.toNat]? = some y := ⟨vs[z.next.toNat]'(by omega), List.getElem?_eq_getElem (by omega)⟩
      have cy : wr.cell? ⟨vb, vo + z.next.toNat, none⟩ = some (.int .u64 (y : Int)) := (World.cell?_of_block (w := wc) (HG.out.block vb hvb (by intro e; exact hsep (by simpa using e.symm)))).trans (HV.out _ y hy)
      have ev : vAt vs z.next = y := by unfold vAt; rw [hy]; rfl
      rw [ea] at q2R
      have hcl := HO.out.cellAt k (by omega)
      have hfz := HO.out.frozenAt k
      have hold : ∃ old, wr.cell? ⟨g, k, none⟩ = some old := by
        rw [hcl]
        have hL : k < ((((N.regs.take k).map fun z => vAt vs z.next) ++ regs.drop k).map uV).length := by simp; omega
        exact ⟨_, List.getElem?_eq_getElem hL⟩
      obtain ⟨old, hold⟩ := hold
      have HST := hidden (HO.out.stored k (.int .u64 (y : Int)))
      have HNX : Hid (((((N.regs.take k).map fun z => vAt vs z.next) ++ regs.drop k).map uV).set k (.int .u64 (y : Int)) = ((((N.regs.take (k + 1)).map fun z => vAt vs z.next) ++ regs.drop (k + 1)).map uV)) := by
        show _ = _
        have e : ((N.regs.take k ++ [z]).map fun z => vAt vs z.next) = ((N.regs.take k).map fun z => vAt vs z.next) ++ [y] := by rw [List.map_append]; simp [ev]
        rw [take_next _ k z hz, e]
        exact set_next _ _ k y (by simp; omega) (by omega)
      generalize z.next = a at *
      obtain ⟨ha0, ha1⟩ := hr
      have hltI : (k : Int) < (N.regs.length : Int) := by omega
      have e3 : IntKind.i64.wrap ((k : Int) + 1) = (k : Int) + 1 := wrapI _ (by omega) (by omega)
      have n1 : mk ≠ g := fun e => hmg e.symm
      have n2 : nbk ≠ g := by omega
      have n3 : rb ≠ g := by have h : rb < C := hrb; omega
      have n4 : vb ≠ g := fun e => hsep e.symm
      have HEND : Hid (((wr.setCell ⟨g, k, none⟩ (.int .u64 (y : Int))).drew).ownsRow C 33 1 (.slice (some ⟨g, 0, none⟩) N.regs.length cap) N.regs.length ((((N.regs.take (k + 1)).map fun z => vAt vs z.next) ++ regs.drop (k + 1)).map uV) ∧ wc.grownBy ((wr.setCell ⟨g, k, none⟩ (.int .u64 (y : Int))).drew) (some g)) := by
        refine ⟨?_, ?_⟩
        · rw [← HNX.out]; exact own_below HST.out.1 (Below.refl _ _).drew
        · exact grown_trans HG.out (grown_trans HST.out.2 ⟨rfl, rfl, rfl, Nat.le_refl _, fun _ _ _ => rfl⟩)
      clear hrc ea hz hy ev hcl HO HST HNX HG hbm
      go_wp2_with fail
      go_region_held3 (fun w' => ∀ b' o, b' ≠ g → w'.cell? ⟨b', o, none⟩ = wr.cell? ⟨b', o, none⟩)
        (first | assumption | (intro b' o h1; rfl) | (intro b' o h1; exact World.cell?_setCell_far _ _ _ _ (fun e => h1 (by have e' : g = b' := e; exact e'.symm))))
        (fail)
      go_wp2_with fail
      go_roundw
      case measure => simp [intOf]; omega
      case rel => exact ⟨k + 1, by omega, by simp, HEND.out.1, HEND.out.2⟩
    · have hge : ¬ ((k : Int) < (N.regs.length : Int)) := by omega
      have HO6 : Hid (wr.ownsRow C 33 1 (.slice (some ⟨g, 0, none⟩) N.regs.length cap) N.regs.length ((N.regs.map fun z => vAt vs z.next).map uV)) := by
        have := HO.out
        rw [List.take_of_length_le (by omega), List.drop_eq_nil_of_le (by omega), List.append_nil] at this
        exact this
      clear HO
      go_wp2
      exact HK.out _ _ _ _ _ _ _ _ _ _ _ _ _ _ _ _ _ _ _ _ _ _ _ _ _ _ _ _ _ ⟨HO6.out, HG.out⟩

end Go.Proofs.Ytlkhmcajedjojaa
