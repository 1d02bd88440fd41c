import Derived.Test.YtmifbcpinhpnnaaDoorAsC
namespace Go.Proofs.YtmifbcpinhpnnaaDoor
open Go.RowKit

set_option maxRecDepth 100000 in
set_option maxHeartbeats 4000000 in
theorem apLats (wc : World) (t0 : List UInt8) (ht0 : t0.length ≤ 100000 + 60 * 60000 * 3) (gx : Nat) (hgx : gx < wc.heap.size) (G : GrD) (B n : Nat) (a : Option Addr) (c : Nat) (q0 : wc.cell? ⟨gx, 1, none⟩ = some (.slice a G.lats.length c)) (HR : Hid (RowAt B wc a 2 (G.lats.map LatD.cells))) (hBw : B ≤ wc.heap.size) (hn : n ≤ 60000) (hin : ∀ z, z ∈ G.lats → 0 ≤ z.next ∧ z.next < 2 * (n : Int)) (hlo : G.lats.length ≤ 60000) (HFL : Hid (∀ i, i < G.lats.length → (fF G i).length ≤ 60)) (K' : Act → World → Prop) (Q0 : Exit → Act → World → Prop) (x0 x2 x5 x6 x7 x8 x9 x10 x11 x12 x13 x14 x15 x16 x17 x18 x19 x20 x21 x22 x23 x24 x25 x26 x27 x28 x29 x30 x31 x32 x33 x34 x35 x36 x37 x38 x39 x40 x41 x42 x43 x44 x45 x46 x47 x48 x49 x50 x51 x52 x53 x54 x55 x56 x57 x58 x59 x60 x61 x62 x63 x64 x65 x66 x67 x68 x69 x70 x71 x72 x73 x74 x75 x76 x77 x78 x79 x80 x81 x82 x83 x84 x85 x86 x87 x88 x89 x90 x91 x92 x93 x94 x95 x96 x97 x98 x99 x100 x101 x102 x103 : Value)
    (HK : Hid (∀ (w' : World) (s4 s13 s14 s15 s16 s17 s18 s19 s20 s21 s22 s23 s24 s25 s26 s27 : Value), Below wc.heap.size wc w' → K' ⟨#[x0, .pointer (some ⟨gx, 0, none⟩), x2, .string (bs (t0 ++ cat (fF G) G.lats.length)), s4, x5, x6, x7, x8, x9, x10, x11, x12, s13, s14, s15, s16, s17, s18, s19, s20, s21, s22, s23, s24, s25, s26, s27, x28, x29, x30, x31, x32, x33, x34, x35, x36, x37, x38, x39, x40, x41, x42, x43, x44, x45, x46, x47, x48, x49, x50, x51, x52, x53, x54, x55, x56, x57, x58, x59, x60, x61, x62, x63, x64, x65, x66, x67, x68, x69, x70, x71, x72, x73, x74, x75, x76, x77, x78, x79, x80, x81, x82, x83, x84, x85, x86, x87, x88, x89, x90, x91, x92, x93, x94, x95, x96, x97, x98, x99, x100, x101, x102, x103], []⟩ w')) :
    Code.wp Tryd.prog ((Tryd.f12.body.bind (blockAt 0)).getD .skip) (Exit.then K' Q0) ⟨#[x0, .pointer (some ⟨gx, 0, none⟩), x2, .string (bs t0), .int .i64 0, x5, x6, x7, x8, x9, x10, x11, x12, x13, x14, x15, x16, x17, x18, x19, x20, x21, x22, x23, x24, x25, x26, x27, x28, x29, x30, x31, x32, x33, x34, x35, x36, x37, x38, x39, x40, x41, x42, x43, x44, x45, x46, x47, x48, x49, x50, x51, x52, x53, x54, x55, x56, x57, x58, x59, x60, x61, x62, x63, x64, x65, x66, x67, x68, x69, x70, x71, x72, x73, x74, x75, x76, x77, x78, x79, x80, x81, x82, x83, x84, x85, x86, x87, x88, x89, x90, x91, x92, x93, x94, x95, x96, x97, x98, x99, x100, x101, x102, x103], []⟩ wc := by
  conv => arg 2; whnf
  go_wp2_with fail
  go_loopw [3, 4] (fun s' i' w' => ∃ (k : Nat), k ≤ G.lats.length ∧ i' = .int .i64 k ∧ s' = .string (bs (t0 ++ cat (fF G) k)) ∧ Hid (Below wc.heap.size wc w')) (fun _ i' _ => G.lats.length - (intOf i').toNat)
  case atStart => exact ⟨0, Nat.zero_le _, rfl, by rw [cat_zero, List.append_nil], Below.refl _ _⟩
  case round =>
    obtain ⟨k, hk, rfl, rfl, HB⟩ := hrel
    by_cases hlt : k < G.lats.length
    · have hltI : (k : Int) < (G.lats.length : Int) := by omega
      have e3 : IntKind.i64.wrap ((k : Int) + 1) = (k : Int) + 1 := wrapI _ (by omega) (by omega)
      have HNX := hidden (cat_next (fF G) k)
      have hlen : (t0 ++ cat (fF G) k).length ≤ 100000 + 60 * 60000 * 4 := by
        rw [List.length_append]
        have := cat_len (f := fF G) (m := 60) k (fun i hi => HFL.out i (by omega))
        omega
      obtain ⟨x, hx⟩ : ∃ x, G.lats[k]? = some x := getElem_lt hlt
      obtain ⟨rb, ro, ea, hrb, hrc⟩ := HR.out.el hx
      obtain ⟨nx, ini⟩ := x
      have hcell := (HB.out.cell (p := ⟨gx, 1, none⟩) hgx).trans q0
      rw [ea] at hcell
      have c1 : wr.cell? ⟨rb, ro + k * 2, none⟩ = some (.int .i64 nx) := (HB.out.cell (p := ⟨rb, ro + k * 2, none⟩) (by show rb < _; omega)).trans (hrc 0 _ rfl)
      have c2 : wr.cell? ⟨rb, ro + k * 2 + 1, none⟩ = some (.bool ini) := (HB.out.cell (p := ⟨rb, ro + k * 2 + 1, none⟩) (by show rb < _; omega)).trans (hrc 1 _ rfl)
      have hxi := hin _ (List.mem_of_getElem? hx)
      simp only at hxi
      have FT : Hid (∀ w', Calls Tryd.prog 18 #[.agg #[.int .i64 nx, .bool ini]] w' fun e w'' => e = .returned (.string (bs (firstT ⟨nx, ini⟩))) ∧ Below w'.heap.size w' w'') := fun w' => first_any ⟨nx, ini⟩ hxi.1 (by simp only; omega) w'
      have hfl := firstT_len (l := ⟨nx, ini⟩) (by simp only; omega)
      have HFK : Hid (fF G k = firstT ⟨nx, ini⟩) := by show _ = _; unfold fF; rw [hx]
      generalize firstT ⟨nx, ini⟩ = ft at *
      clear hrc ea hx hxi
      generalize hT : t0 ++ cat (fF G) k = t at *
      have HTT := hidden hT
      clear hT
      obtain ⟨z0, H0, L0, A0⟩ := add_to (bs t) (bs ft) t ft rfl rfl (by omega)
      have HZ : Hid (z0 = t ++ fF G k) := by show _ = _; rw [H0.out, HFK.out]
      clear H0 HFK
      go_wp2_with fail
      go_at_call 18
      refine (FT.out _).mono ?_
      rintro e w2 ⟨rfl, hb2⟩
      have HB2 : Hid (Below wc.heap.size wc w2) := HB.out.trans (hb2.mono HB.out.size)
      clear hb2 HB FT hcell c1 c2
      go_wp2
      go_roundw
      case measure => simp [intOf]; omega
      case rel => exact ⟨k + 1, by omega, by simp, by rw [HNX.out, ← List.append_assoc, HTT.out]; exact congrArg (fun x => Value.string (bs x)) HZ.out, HB2.out⟩
    · have hge : ¬ ((k : Int) < (G.lats.length : Int)) := by omega
      have HEN : Hid (t0 ++ cat (fF G) k = t0 ++ cat (fF G) (G.lats.length)) := by show _ = _; rw [show k = G.lats.length by omega]
      have hcell := (HB.out.cell (p := ⟨gx, 1, none⟩) hgx).trans q0
      rw [HEN.out]
      go_wp2
      exact HK.out _ _ _ _ _ _ _ _ _ _ _ _ _ _ _ _ _ HB.out

set_option maxRecDepth 100000 in
set_option maxHeartbeats 4000000 in
theorem apOuts (wc : World) (t0 : List UInt8) (ht0 : t0.length ≤ 100000 + 60 * 60000 * 3) (gx : Nat) (hgx : gx < wc.heap.size) (G : GrD) (B n : Nat) (a : Option Addr) (c : Nat) (q0 : wc.cell? ⟨gx, 3, none⟩ = some (.slice a G.outs.length c)) (HR : Hid (RowAt B wc a 1 (G.outs.map intC))) (hBw : B ≤ wc.heap.size) (hn : n ≤ 60000) (hin : ∀ z, z ∈ G.outs → 0 ≤ z ∧ z < 2 * (n : Int)) (hlo : G.outs.length ≤ 60000) (HFL : Hid (∀ i, i < G.outs.length → (fO G i).length ≤ 60)) (K' : Act → World → Prop) (Q0 : Exit → Act → World → Prop) (x0 x2 x4 x6 x7 x8 x9 x10 x11 x12 x13 x14 x15 x16 x17 x18 x19 x20 x21 x22 x23 x24 x25 x26 x27 x28 x29 x30 x31 x32 x33 x34 x35 x36 x37 x38 x39 x40 x41 x42 x43 x44 x45 x46 x47 x48 x49 x50 x51 x52 x53 x54 x55 x56 x57 x58 x59 x60 x61 x62 x63 x64 x65 x66 x67 x68 x69 x70 x71 x72 x73 x74 x75 x76 x77 x78 x79 x80 x81 x82 x83 x84 x85 x86 x87 x88 x89 x90 x91 x92 x93 x94 x95 x96 x97 x98 x99 x100 x101 x102 x103 : Value)
    (HK : Hid (∀ (w' : World) (s5 s28 s29 s30 s31 s32 s33 s34 s35 s36 s37 s38 s39 s40 s41 s42 s43 : Value), Below wc.heap.size wc w' → K' ⟨#[x0, .pointer (some ⟨gx, 0, none⟩), x2, .string (bs (t0 ++ cat (fO G) G.outs.length)), x4, s5, x6, x7, x8, x9, x10, x11, x12, x13, x14, x15, x16, x17, x18, x19, x20, x21, x22, x23, x24, x25, x26, x27, s28, s29, s30, s31, s32, s33, s34, s35, s36, s37, s38, s39, s40, s41, s42, s43, x44, x45, x46, x47, x48, x49, x50, x51, x52, x53, x54, x55, x56, x57, x58, x59, x60, x61, x62, x63, x64, x65, x66, x67, x68, x69, x70, x71, x72, x73, x74, x75, x76, x77, x78, x79, x80, x81, x82, x83, x84, x85, x86, x87, x88, x89, x90, x91, x92, x93, x94, x95, x96, x97, x98, x99, x100, x101, x102, x103], []⟩ w')) :
    Code.wp Tryd.prog ((Tryd.f12.body.bind (blockAt 2)).getD .skip) (Exit.then K' Q0) ⟨#[x0, .pointer (some ⟨gx, 0, none⟩), x2, .string (bs t0), x4, .int .i64 0, x6, x7, x8, x9, x10, x11, x12, x13, x14, x15, x16, x17, x18, x19, x20, x21, x22, x23, x24, x25, x26, x27, x28, x29, x30, x31, x32, x33, x34, x35, x36, x37, x38, x39, x40, x41, x42, x43, x44, x45, x46, x47, x48, x49, x50, x51, x52, x53, x54, x55, x56, x57, x58, x59, x60, x61, x62, x63, x64, x65, x66, x67, x68, x69, x70, x71, x72, x73, x74, x75, x76, x77, x78, x79, x80, x81, x82, x83, x84, x85, x86, x87, x88, x89, x90, x91, x92, x93, x94, x95, x96, x97, x98, x99, x100, x101, x102, x103], []⟩ wc := by
  conv => arg 2; whnf
  go_wp2_with fail
  go_loopw [3, 5] (fun s' i' w' => ∃ (k : Nat), k ≤ G.outs.length ∧ i' = .int .i64 k ∧ s' = .string (bs (t0 ++ cat (fO G) k)) ∧ Hid (Below wc.heap.size wc w')) (fun _ i' _ => G.outs.length - (intOf i').toNat)
  case atStart => exact ⟨0, Nat.zero_le _, rfl, by rw [cat_zero, List.append_nil], Below.refl _ _⟩
  case round =>
    obtain ⟨k, hk, rfl, rfl, HB⟩ := hrel
    by_cases hlt : k < G.outs.length
    · have hltI : (k : Int) < (G.outs.length : Int) := by omega
      have e3 : IntKind.i64.wrap ((k : Int) + 1) = (k : Int) + 1 := wrapI _ (by omega) (by omega)
      have HNX := hidden (cat_next (fO G) k)
      have hlen : (t0 ++ cat (fO G) k).length ≤ 100000 + 60 * 60000 * 4 := by
        rw [List.length_append]
        have := cat_len (f := fO G) (m := 60) k (fun i hi => HFL.out i (by omega))
        omega
      obtain ⟨x, hx⟩ : ∃ x, G.outs[k]? = some x := getElem_lt hlt
      obtain ⟨rb, ro, ea, hrb, hrc⟩ := HR.out.intR hx
      have hcell := (HB.out.cell (p := ⟨gx, 3, none⟩) hgx).trans q0
      rw [ea] at hcell
      have c1 := (HB.out.cell (p := ⟨rb, ro + k, none⟩) (by show rb < _; omega)).trans hrc
      have hxi := hin x (List.mem_of_getElem? hx)
      obtain ⟨d0, WH0, D0, l0⟩ := whole_of x hxi.1 (by omega)
      have HFK : Hid (fO G k = decI x ++ [10]) := by show _ = _; unfold fO; rw [hx]
      clear hrc ea hx hxi
      generalize hT : t0 ++ cat (fO G) k = t at *
      have HTT := hidden hT
      clear hT
      obtain ⟨z0, H0, L0, A0⟩ := add_to (bs t) (bs d0) t d0 rfl rfl (by omega)
      obtain ⟨z1, H1, L1, A1⟩ := add_to (bs z0) ⟨#[10]⟩ z0 [10] rfl rfl (by simp only [List.length_cons, List.length_nil]; omega)
      have HZ : Hid (z1 = t ++ fO G k) := by show _ = _; rw [H1.out, H0.out, D0.out, HFK.out]; simp
      clear H0 H1 D0 HFK
      go_wp2_with fail
      go_at_call 17
      refine (WH0.out _).mono ?_
      rintro e w2 ⟨rfl, hb2⟩
      have HB2 : Hid (Below wc.heap.size wc w2) := HB.out.trans (hb2.mono HB.out.size)
      clear hb2 HB WH0 hcell c1
      go_wp2
      go_roundw
      case measure => simp [intOf]; omega
      case rel => exact ⟨k + 1, by omega, by simp, by rw [HNX.out, ← List.append_assoc, HTT.out]; exact congrArg (fun x => Value.string (bs x)) HZ.out, HB2.out⟩
    · have hge : ¬ ((k : Int) < (G.outs.length : Int)) := by omega
      have HEN : Hid (t0 ++ cat (fO G) k = t0 ++ cat (fO G) (G.outs.length)) := by show _ = _; rw [show k = G.outs.length by omega]
      have hcell := (HB.out.cell (p := ⟨gx, 3, none⟩) hgx).trans q0
      rw [HEN.out]
      go_wp2
      exact HK.out _ _ _ _ _ _ _ _ _ _ _ _ _ _ _ _ _ _ HB.out

set_option maxRecDepth 100000 in
set_option maxHeartbeats 16000000 in
theorem apAnds (wc : World) (B : Nat) (v0 : Value) (t0 : List UInt8) (HT0 : Hid (Txt B wc v0 t0)) (hB : B ≤ wc.heap.size) (ht0 : t0.length ≤ 20000000) (gx : Nat) (hgx : gx < B) (G : GrD) (D n first : Nat) (a : Option Addr) (c : Nat) (q0 : wc.cell? ⟨gx, 2, none⟩ = some (.slice a G.ands.length c)) (HR : Hid (RowAt D wc a 2 (G.ands.map AndD.cells))) (hD : D ≤ B) (hn : n ≤ 60000) (hfn : first + G.ands.length = n) (hin : ∀ (k : Nat) (d : AndD), G.ands[k]? = some d → (0 ≤ d.x ∧ d.x < 2 * ((first + k : Nat) : Int)) ∧ (0 ≤ d.y ∧ d.y < 2 * ((first + k : Nat) : Int))) (HFL : Hid (∀ i, i < G.ands.length → (pA pkT G first i).length ≤ 60)) (K' : Act → World → Prop) (Q0 : Exit → Act → World → Prop) (x0 x2 x3 x4 x5 x9 x10 x11 x12 x13 x14 x15 x16 x17 x18 x19 x20 x21 x22 x23 x24 x25 x26 x27 x28 x29 x30 x31 x32 x33 x34 x35 x36 x37 x38 x39 x40 x41 x42 x43 x44 x45 x46 x47 x48 x49 x50 x51 x52 x53 x54 x55 x56 x57 x58 x59 x60 x61 x62 x63 x64 x65 x66 x67 x68 x69 x70 x71 x72 x73 x74 x75 x76 x77 x78 x79 x80 x81 x82 x83 x84 x85 x86 x87 x88 x89 x90 x91 x92 x93 x94 x95 x96 x97 x98 x99 x100 x101 x102 x103 : Value)
    (HK : Hid (∀ (w' : World) (s6 s8 s9 s10 s53 s54 s55 s56 s57 s58 s59 s60 s61 s62 s63 s64 s65 s66 s67 s68 s69 s70 s71 s72 s73 s74 s75 s76 s77 s78 s79 s80 s81 s82 s83 s84 s85 s86 s87 s88 s89 s90 s91 s92 s93 s94 s95 s96 s97 s98 s99 s100 s101 s102 : Value), Txt B w' s6 (t0 ++ cat (pA pkT G first) G.ands.length) ∧ Step wc v0 w' s6 → K' ⟨#[x0, .pointer (some ⟨gx, 0, none⟩), x2, x3, x4, x5, s6, .int .i64 (first : Int), s8, s9, s10, x11, x12, x13, x14, x15, x16, x17, x18, x19, x20, x21, x22, x23, x24, x25, x26, x27, x28, x29, x30, x31, x32, x33, x34, x35, x36, x37, x38, x39, x40, x41, x42, x43, x44, x45, x46, x47, x48, x49, x50, x51, x52, s53, s54, s55, s56, s57, s58, s59, s60, s61, s62, s63, s64, s65, s66, s67, s68, s69, s70, s71, s72, s73, s74, s75, s76, s77, s78, s79, s80, s81, s82, s83, s84, s85, s86, s87, s88, s89, s90, s91, s92, s93, s94, s95, s96, s97, s98, s99, s100, s101, s102, x103], []⟩ w')) :
    Code.wp Tryd.prog ((Tryd.f12.body.bind (blockAt 4)).getD .skip) (Exit.then K' Q0) ⟨#[x0, .pointer (some ⟨gx, 0, none⟩), x2, x3, x4, x5, v0, .int .i64 (first : Int), .int .i64 0, x9, x10, x11, x12, x13, x14, x15, x16, x17, x18, x19, x20, x21, x22, x23, x24, x25, x26, x27, x28, x29, x30, x31, x32, x33, x34, x35, x36, x37, x38, x39, x40, x41, x42, x43, x44, x45, x46, x47, x48, x49, x50, x51, x52, x53, x54, x55, x56, x57, x58, x59, x60, x61, x62, x63, x64, x65, x66, x67, x68, x69, x70, x71, x72, x73, x74, x75, x76, x77, x78, x79, x80, x81, x82, x83, x84, x85, x86, x87, x88, x89, x90, x91, x92, x93, x94, x95, x96, x97, x98, x99, x100, x101, x102, x103], []⟩ wc := by
  conv => arg 2; whnf
  obtain ⟨i0, hi, hz, hs, hb⟩ := info_u8
  have HI := hidden hi
  have HZ := hidden hz
  have HS := hidden hs
  have HBY := hidden hb
  clear hi hz hs hb
  go_wp2_with fail
  go_loopw [6, 8] (fun b' i' w' => ∃ (k : Nat), k ≤ G.ands.length ∧ i' = .int .i64 k ∧ Hid (Txt B w' b' (t0 ++ cat (pA pkT G first) k)) ∧ Hid (Step wc v0 w' b')) (fun _ i' _ => G.ands.length - (intOf i').toNat)
  case atStart => exact ⟨0, Nat.zero_le _, rfl, by show Txt _ _ _ _; rw [cat_zero, List.append_nil]; exact HT0.out, Step.refl _ _⟩
  case round =>
    obtain ⟨k, hk, rfl, HT, HSt⟩ := hrel
    have hsz := HSt.out.1.size
    have gfar : ∀ x, x < B → v0.ownBlock ≠ some x := fun x hx e => by have := HT0.out.ge x e; omega
    by_cases hlt : k < G.ands.length
    · have hltI : (k : Int) < (G.ands.length : Int) := by omega
      have e3 : IntKind.i64.wrap ((k : Int) + 1) = (k : Int) + 1 := wrapI _ (by omega) (by omega)
      have HNX := hidden (cat_next (pA pkT G first) k)
      have hlen : (t0 ++ cat (pA pkT G first) k).length ≤ 50000000 := by
        rw [List.length_append]
        have := cat_len (f := pA pkT G first) (m := 60) k (fun i hi => HFL.out i (by omega))
        omega
      obtain ⟨d, hd⟩ : ∃ d, G.ands[k]? = some d := getElem_lt hlt
      obtain ⟨rb, ro, ea, hrb, hrc⟩ := HR.out.el hd
      have hcell := (HSt.out.cell (p := ⟨gx, 2, none⟩) (by show gx < _; omega) (gfar gx hgx)).trans q0
      rw [ea] at hcell
      have c1 : wr.cell? ⟨rb, ro + k * 2, none⟩ = some (.int .i64 d.x) := (HSt.out.cell (p := ⟨rb, ro + k * 2, none⟩) (by show rb < _; omega) (gfar rb (by omega))).trans (hrc 0 _ rfl)
      have c2 : wr.cell? ⟨rb, ro + k * 2 + 1, none⟩ = some (.int .i64 d.y) := (HSt.out.cell (p := ⟨rb, ro + k * 2 + 1, none⟩) (by show rb < _; omega) (gfar rb (by omega))).trans (hrc 1 _ rfl)
      have hxi := hin k d hd
      have HFK := hidden (pA_line (gT := pkT) (first := first) hd)
      obtain ⟨dx, dy⟩ := d
      simp only at c1 c2 hxi
      obtain ⟨mx, hmx⟩ : ∃ m, m = max dx dy := ⟨_, rfl⟩
      obtain ⟨mn, hmn⟩ : ∃ m, m = min dx dy := ⟨_, rfl⟩
      obtain ⟨na, hna⟩ : ∃ a : Nat, (a : Int) = 2 * ((first : Int) + (k : Int)) - mx := ⟨(2 * ((first : Int) + (k : Int)) - mx).toNat, by omega⟩
      obtain ⟨nb, hnb⟩ : ∃ b : Nat, (b : Int) = mx - mn := ⟨(mx - mn).toNat, by omega⟩
      have HPK : Hid (pkT (2 * ((first : Int) + (k : Int))) ⟨dx, dy⟩ = sevenT na ++ sevenT nb) := by
        show _ = _
        unfold pkT
        simp only
        rw [← hmx, ← hmn, ← hna, ← hnb]; rfl
      have MO : Hid (∀ w' : World, Calls Tryd.prog 19 #[.int .i64 dx, .int .i64 dy] w' fun e w'' => e = .returned (.int .i64 mx) ∧ w'' = w') := fun w' => by rw [hmx]; exact most_any dx dy w'
      have eS : IntKind.i64.wrap (dx + dy) = dx + dy := wrapI _ (by omega) (by omega)
      have eT : IntKind.i64.wrap (dx + dy - mx) = mn := by rw [wrapI _ (by omega) (by omega)]; omega
      have eF : IntKind.i64.wrap ((first : Int) + (k : Int)) = (first : Int) + (k : Int) := wrapI _ (by omega) (by omega)
      have eG : IntKind.i64.wrap (2 * ((first : Int) + (k : Int))) = 2 * ((first : Int) + (k : Int)) := wrapI _ (by omega) (by omega)
      have eA : IntKind.i64.wrap (2 * ((first : Int) + (k : Int)) - mx) = (na : Int) := by rw [wrapI _ (by omega) (by omega)]; omega
      have eB : IntKind.i64.wrap (mx - mn) = (nb : Int) := by rw [wrapI _ (by omega) (by omega)]; omega
      have hnab : na < 4294967296 ∧ nb < 4294967296 := by omega
      have HM1 := hidden hna
      have HM2 := hidden hnb
      have HM3 : Hid (dx + dy - mx = mn) := by show _ = _; omega
      have hmb : 0 ≤ mx ∧ mx < 200000 ∧ 0 ≤ mn ∧ mn < 200000 := by omega
      clear hrc ea hd hmx hmn hna hnb
      go_upto_region 15 with fail
      (
      refine wp_region_noPanic ?_
      refine wp_region_held_drew (S := (fun w' => w'.cell? ⟨gx, 2, none⟩ = some (.slice (some ⟨rb, ro, none⟩) G.ands.length c) ∧ w'.cell? ⟨rb, ro + k * 2, none⟩ = some (.int .i64 dx) ∧ w'.cell? ⟨rb, ro + k * 2 + 1, none⟩ = some (.int .i64 dy))) (by kernel_rfl) (by first | assumption | exact ⟨hcell, c1, c2⟩) (fun hHeld => ?_)
      refine wpAnyH_take (i := 0) (oi := _) (v := ?_) rfl (by kernel_rfl) (by kernel_rfl) (by kernel_rfl) (fun _ _ _ h => h) (Or.inl ⟨by rfl, ?_⟩) (by assumption) ?_
      rotate_left
      · (intro w0 hSw; (try dsimp only at hSw); (try simp only [List.getElem_toArray, List.getElem_cons_zero]); go_simp; try (with_reducible rfl))
      try simp only [Act.put, List.getElem_toArray, List.getElem_cons_zero, List.setIfInBounds_toArray, List.set_cons_zero, List.set_cons_succ]
      refine wpAnyH_take (i := 1) (oi := _) (v := ?_) rfl (by kernel_rfl) (by kernel_rfl) (by kernel_rfl) (fun _ _ _ h => h) (Or.inl ⟨by rfl, ?_⟩) (by assumption) ?_
      rotate_left
      · (intro w0 hSw; (try dsimp only at hSw); (try simp only [List.getElem_toArray, List.getElem_cons_zero, List.getElem_cons_succ]); go_simp; try (with_reducible rfl))
      try simp only [Act.put, List.getElem_toArray, List.getElem_cons_zero, List.getElem_cons_succ, List.setIfInBounds_toArray, List.set_cons_zero, List.set_cons_succ]
      refine wpAnyH_take (i := 2) (oi := _) (v := ?_) rfl (by kernel_rfl) (by kernel_rfl) (by kernel_rfl) (fun _ _ _ h => h) (Or.inl ⟨by rfl, ?_⟩) (by assumption) ?_
      rotate_left
      · (intro w0 hSw; (try dsimp only at hSw); (try simp only [List.getElem_toArray, List.getElem_cons_zero, List.getElem_cons_succ]); go_simp; try (with_reducible rfl))
      try simp only [Act.put, List.getElem_toArray, List.getElem_cons_zero, List.getElem_cons_succ, List.setIfInBounds_toArray, List.set_cons_zero, List.set_cons_succ]
      refine wpAnyH_take (i := 3) (oi := _) (v := ?_) rfl (by kernel_rfl) (by kernel_rfl) (by kernel_rfl) (fun _ _ _ h => h) (Or.inl ⟨by rfl, ?_⟩) (by assumption) ?_
      rotate_left
      · (intro w0 hSw; (try dsimp only at hSw); (try simp only [List.getElem_toArray, List.getElem_cons_zero, List.getElem_cons_succ]); go_simp; try (with_reducible rfl))
      try simp only [Act.put, List.getElem_toArray, List.getElem_cons_zero, List.getElem_cons_succ, List.setIfInBounds_toArray, List.set_cons_zero, List.set_cons_succ]
      refine wpAnyH_take (i := 4) (oi := _) (v := ?_) rfl (by kernel_rfl) (by kernel_rfl) (by kernel_rfl) (fun _ _ _ h => h) (Or.inl ⟨by rfl, ?_⟩) (by assumption) ?_
      rotate_left
      · (intro w0 hSw; (try dsimp only at hSw); (try simp only [List.getElem_toArray, List.getElem_cons_zero, List.getElem_cons_succ]); go_simp; try (with_reducible rfl))
      try simp only [Act.put, List.getElem_toArray, List.getElem_cons_zero, List.getElem_cons_succ, List.setIfInBounds_toArray, List.set_cons_zero, List.set_cons_succ]
      refine wpAnyH_take (i := 5) (oi := _) (v := ?_) rfl (by kernel_rfl) (by kernel_rfl) (by kernel_rfl) (fun _ _ _ h => h) (Or.inl ⟨by rfl, ?_⟩) (by assumption) ?_
      rotate_left
      · (intro w0 hSw; (try dsimp only at hSw); (try simp only [List.getElem_toArray, List.getElem_cons_zero, List.getElem_cons_succ]); go_simp; try (with_reducible rfl))
      try simp only [Act.put, List.getElem_toArray, List.getElem_cons_zero, List.getElem_cons_succ, List.setIfInBounds_toArray, List.set_cons_zero, List.set_cons_succ]
      refine wpAnyH_take (i := 6) (oi := _) (v := ?_) rfl (by kernel_rfl) (by kernel_rfl) (by kernel_rfl) (fun _ _ _ h => h) (Or.inl ⟨by rfl, ?_⟩) (by assumption) ?_
      rotate_left
      · (intro w0 hSw; (try dsimp only at hSw); (try simp only [List.getElem_toArray, List.getElem_cons_zero, List.getElem_cons_succ]); go_simp; try (with_reducible rfl))
      try simp only [Act.put, List.getElem_toArray, List.getElem_cons_zero, List.getElem_cons_succ, List.setIfInBounds_toArray, List.set_cons_zero, List.set_cons_succ]
      refine wpAnyH_take (i := 7) (oi := _) (v := ?_) rfl (by kernel_rfl) (by kernel_rfl) (by kernel_rfl) (fun _ _ _ h => h) (Or.inl ⟨by rfl, ?_⟩) (by assumption) ?_
      rotate_left
      · (intro w0 hSw; (try dsimp only at hSw); (try simp only [List.getElem_toArray, List.getElem_cons_zero, List.getElem_cons_succ]); go_simp; try (with_reducible rfl))
      try simp only [Act.put, List.getElem_toArray, List.getElem_cons_zero, List.getElem_cons_succ, List.setIfInBounds_toArray, List.set_cons_zero, List.set_cons_succ]
      refine wpAnyH_take (i := 8) (oi := _) (v := ?_) rfl (by kernel_rfl) (by kernel_rfl) (by kernel_rfl) (fun _ _ _ h => h) (Or.inl ⟨by rfl, ?_⟩) (by assumption) ?_
      rotate_left
      · (intro w0 hSw; (try dsimp only at hSw); (try simp only [List.getElem_toArray, List.getElem_cons_zero, List.getElem_cons_succ]); go_simp; try (with_reducible rfl))
      try simp only [Act.put, List.getElem_toArray, List.getElem_cons_zero, List.getElem_cons_succ, List.setIfInBounds_toArray, List.set_cons_zero, List.set_cons_succ]
      refine wpAnyH_take (i := 9) (oi := _) (v := ?_) rfl (by kernel_rfl) (by kernel_rfl) (by kernel_rfl) (fun _ _ _ h => h) (Or.inl ⟨by rfl, ?_⟩) (by assumption) ?_
      rotate_left
      · (intro w0 hSw; (try dsimp only at hSw); (try simp only [List.getElem_toArray, List.getElem_cons_zero, List.getElem_cons_succ]); go_simp; try (with_reducible rfl))
      try simp only [Act.put, List.getElem_toArray, List.getElem_cons_zero, List.getElem_cons_succ, List.setIfInBounds_toArray, List.set_cons_zero, List.set_cons_succ]
      refine wpAnyH_take (i := 10) (oi := _) (v := ?_) rfl (by kernel_rfl) (by kernel_rfl) (by kernel_rfl) (fun _ _ _ h => h) (Or.inl ⟨by rfl, ?_⟩) (by assumption) ?_
      rotate_left
      · (intro w0 hSw; (try dsimp only at hSw); (try simp only [List.getElem_toArray, List.getElem_cons_zero, List.getElem_cons_succ]); go_simp; try (with_reducible rfl))
      try simp only [Act.put, List.getElem_toArray, List.getElem_cons_zero, List.getElem_cons_succ, List.setIfInBounds_toArray, List.set_cons_zero, List.set_cons_succ]
      refine wpAnyH_take (i := 11) (oi := _) (v := ?_) rfl (by kernel_rfl) (by kernel_rfl) (by kernel_rfl) (fun _ _ _ h => h) (Or.inl ⟨by rfl, ?_⟩) (by assumption) ?_
      rotate_left
      · (intro w0 hSw; (try dsimp only at hSw); (try simp only [List.getElem_toArray, List.getElem_cons_zero, List.getElem_cons_succ]); go_simp; try (with_reducible rfl))
      try simp only [Act.put, List.getElem_toArray, List.getElem_cons_zero, List.getElem_cons_succ, List.setIfInBounds_toArray, List.set_cons_zero, List.set_cons_succ]
      refine wpAnyH_ready (rs := [12]) (by kernel_rfl) (by simp) ?_
      refine AllReadyH.cons (o := _) rfl (fun K hK => ?_) AllReadyH.nil
      (try simp only [List.getElem_toArray, List.getElem_cons_zero, List.getElem_cons_succ])
      go_simp
      go_at_call 19
      refine (MO.out _).mono ?_
      rintro e w2 ⟨rfl, hw2⟩
      subst hw2
      go_wp2_with fail
      refine hK.out _ _ (by first | assumption | exact ⟨hcell, c1, c2⟩) (fun hHeld1 => ?_)
      clear hK K
      try simp only [Act.put, List.setIfInBounds_toArray, List.set_cons_zero, List.set_cons_succ]
      refine wpAnyH_take (i := 13) (oi := _) (v := ?_) rfl (by kernel_rfl) (by kernel_rfl) (by kernel_rfl) (fun _ _ _ h => h) (Or.inl ⟨by rfl, ?_⟩) (by assumption) ?_
      rotate_left
      · (intro w0 hSw; (try dsimp only at hSw); (try simp only [List.getElem_toArray, List.getElem_cons_zero, List.getElem_cons_succ]); go_simp; try (with_reducible rfl))
      try simp only [Act.put, List.getElem_toArray, List.getElem_cons_zero, List.getElem_cons_succ, List.setIfInBounds_toArray, List.set_cons_zero, List.set_cons_succ]
      refine wpAnyH_done (by kernel_rfl) ?_ _
      refine NoPanic.normal ?_
      )
      go_wp2_with fail
      go_quiet (fail)
      try rw [HM3.out]
      generalize hWB : World.drewN (World.drew wr) _ = wB
      have HBB : Hid (Below wr.heap.size wr wB) := by rw [← hWB]; exact Below.drewN (Below.drew (Below.refl _ _)) _
      have hsB := HBB.out.size
      clear hWB hcell c1 c2 MO eS eT
      go_wp2_with fail
      try rw [HM1.out.symm]
      go_at_call 20
      refine (seven_any wB na hnab.1).mono ?_
      rintro e w2 ⟨v2, rfl, hT2, hb2⟩
      have HTB : Hid (OwnM wB B 5 u6 (t0 ++ cat (pA pkT G first) k).length (bC8 (t0 ++ cat (pA pkT G first) k))) := OwnM.to HT.out HBB.out
      obtain ⟨g2, cp2, hv2, _, _⟩ := OwnM.row hT2 (seven_pos _)
      subst hv2
      have hs2 := hb2.size
      have HO2 : Hid (OwnM w2 B 5 u6 (t0 ++ cat (pA pkT G first) k).length (bC8 (t0 ++ cat (pA pkT G first) k))) := OwnM.to HTB.out hb2
      have HN2 : Hid (∀ j x, (bC8 (sevenT na))[j]? = some x → w2.cell? ((⟨g2, 0, none⟩ : Addr).add j) = some x) := OwnM.cells hT2 (g := g2) rfl
      have H12 : Hid (∀ x ∈ bC8 (sevenT na), x.oneCell' = true) := by
        intro x hx
        obtain ⟨y, _, rfl⟩ := List.mem_map.1 hx
        rfl
      have hl2 := seven_len na (by omega)
      have hb21 : (t0 ++ cat (pA pkT G first) k).length + (sevenT na).length ≤ 1000000000000 := by
        try simp only [List.length_append] at *
        omega
      have hb22 : B ≤ w2.heap.size := by omega
      have HB2 := hidden hb2
      clear hb2 hT2
      have tok : True := trivial
      go_upto_region 18 with (have _t := tok; at_builtin; (refine wpList_appendM _ rfl (.tmp 88) (.tmp 95) 33 rfl B 5 i0 Tryd.underlying33 HI.out HZ.out HS.out HBY.out u6 _ _ rfl HO2.out ⟨g2, 0, none⟩ _ cp2 (bC8 (sevenT na)) (bC8_len _) rfl HN2.out H12.out hb21 hb22 ?_; intro v3 w3 hown3 hst3; clear tok))
      have HT3 : Hid (Txt B w3 v3 (t0 ++ cat (pA pkT G first) k ++ sevenT na)) := by
        show OwnM _ _ _ _ _ _
        rw [← bC8_app, List.length_append]; exact hown3
      have HS3 : Hid (Step wr u6 w3 v3) := ((Step.same HBB.out).trans (Step.same HB2.out)).trans hst3
      have hs3 := HS3.out.1.size
      clear hown3 hst3 HO2 HN2 H12 hb21 hb22
      go_wp2_with fail
      try rw [HM2.out.symm]
      go_at_call 20
      refine (seven_any w3 nb hnab.2).mono ?_
      rintro e w4 ⟨v4, rfl, hT4, hb4⟩
      obtain ⟨g4, cp4, hv4, _, _⟩ := OwnM.row hT4 (seven_pos _)
      subst hv4
      have hs4 := hb4.size
      have HO4 : Hid (OwnM w4 B 5 v3 (t0 ++ cat (pA pkT G first) k ++ sevenT na).length (bC8 (t0 ++ cat (pA pkT G first) k ++ sevenT na))) := OwnM.to HT3.out hb4
      have HN4 : Hid (∀ j x, (bC8 (sevenT nb))[j]? = some x → w4.cell? ((⟨g4, 0, none⟩ : Addr).add j) = some x) := OwnM.cells hT4 (g := g4) rfl
      have H14 : Hid (∀ x ∈ bC8 (sevenT nb), x.oneCell' = true) := by
        intro x hx
        obtain ⟨y, _, rfl⟩ := List.mem_map.1 hx
        rfl
      have hl4 := seven_len nb (by omega)
      have hb41 : (t0 ++ cat (pA pkT G first) k ++ sevenT na).length + (sevenT nb).length ≤ 1000000000000 := by
        try simp only [List.length_append] at *
        omega
      have hb42 : B ≤ w4.heap.size := by omega
      have HB4 := hidden hb4
      clear hb4 hT4
      have tok : True := trivial
      go_wp2_with (have _t := tok; at_builtin; (refine wpList_appendM _ rfl (.tmp 97) (.tmp 101) 33 rfl B 5 i0 Tryd.underlying33 HI.out HZ.out HS.out HBY.out v3 _ _ rfl HO4.out ⟨g4, 0, none⟩ _ cp4 (bC8 (sevenT nb)) (bC8_len _) rfl HN4.out H14.out hb41 hb42 ?_; intro v5 w5 hown5 hst5; clear tok))
      have HT5 : Hid (Txt B w5 v5 (t0 ++ cat (pA pkT G first) (k + 1))) := by
        show OwnM _ _ _ _ _ _
        rw [HNX.out, HFK.out, HPK.out, ← List.append_assoc, ← List.append_assoc, ← bC8_app, List.length_append]; exact hown5
      have HS5 : Hid (Step wc v0 w5 v5) := ((HSt.out.trans HS3.out).trans (Step.same HB4.out)).trans hst5
      clear hown5 hst5 HO4 HN4 H14 hb41 hb42 HT HSt HT3 HS3 HNX HFK HPK
      go_wp2
      go_roundw
      case measure => simp [intOf]; omega
      case rel => exact ⟨k + 1, by omega, by simp, HT5.out, HS5.out⟩
    · have hge : ¬ ((k : Int) < (G.ands.length : Int)) := by omega
      have HEN : Hid (Txt B wr u6 (t0 ++ cat (pA pkT G first) G.ands.length)) := by
        have := HT.out
        rw [show k = G.ands.length by omega] at this
        exact this
      have hcell := (HSt.out.cell (p := ⟨gx, 2, none⟩) (by show gx < _; omega) (gfar gx hgx)).trans q0
      clear HT
      go_wp2
      exact HK.out _ _ _ _ _ _ _ _ _ _ _ _ _ _ _ _ _ _ _ _ _ _ _ _ _ _ _ _ _ _ _ _ _ _ _ _ _ _ _ _ _ _ _ _ _ _ _ _ _ _ _ _ _ _ _ ⟨HEN.out, HSt.out⟩

end Go.Proofs.YtmifbcpinhpnnaaDoor
