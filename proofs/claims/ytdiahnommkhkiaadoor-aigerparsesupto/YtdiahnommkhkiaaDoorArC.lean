import Derived.Test.YtdiahnommkhkiaaDoorArB
import Derived.Deep.CutBlock
namespace Go.Proofs.YtdiahnommkhkiaaDoor
open Go.RowKit

/-- a block of a text, by its number -/
def blockAt (n : Nat) : Code → Option Code
  | .block m c => if m = n then some (.block m c) else blockAt n c
  | .seq a b => match blockAt n a with
    | some c => some c
    | none => blockAt n b
  | .loop c => blockAt n c
  | .scope c => blockAt n c
  | .cond _ a b => match blockAt n a with
    | some c => some c
    | none => blockAt n b
  | _ => none
/-- lines one behind the other -/
def cat (f : Nat → List UInt8) (k : Nat) : List UInt8 := (List.range k).flatMap f
theorem cat_next (f : Nat → List UInt8) (k : Nat) : cat f (k + 1) = cat f k ++ f k := by unfold cat; rw [List.range_succ, List.flatMap_append]; simp
theorem cat_zero (f : Nat → List UInt8) : cat f 0 = [] := rfl
theorem cat_len {f : Nat → List UInt8} {m : Nat} (k : Nat) (h : ∀ i, i < k → (f i).length ≤ m) : (cat f k).length ≤ m * k := by
  induction k with
  | zero => simp [cat]
  | succ k ih =>
    rw [cat_next, List.length_append]
    have h1 := ih fun i hi => h i (by omega)
    have h2 := h k (by omega)
    rw [Nat.mul_succ]; omega
def fI (i : Nat) : List UInt8 := decI (2 * (1 + (i : Int))) ++ [10]
def fL (G : GrD) (ni i : Nat) : List UInt8 := match G.lats[i]? with | some l => decI (2 * (1 + (ni : Int) + (i : Int))) ++ [32] ++ firstT l | none => []
def fO (G : GrD) (i : Nat) : List UInt8 := match G.outs[i]? with | some x => decI x ++ [10] | none => []
def fA (G : GrD) (first i : Nat) : List UInt8 := match G.ands[i]? with | some d => decI (2 * ((first : Int) + (i : Int))) ++ [32] ++ decI d.x ++ [32] ++ decI d.y ++ [10] | none => []
theorem firstT_len {l : LatD} (h : l.next < 4294967296) : (firstT l).length ≤ 13 := by
  unfold firstT
  have := decI_len h
  cases l.init <;> simp <;> omega

set_option maxRecDepth 100000 in
set_option maxHeartbeats 4000000 in
theorem atIns (wc : World) (t0 : List UInt8) (ht0 : t0.length ≤ 100000 + 60 * 60000 * 3) (gx : Nat) (hgx : gx < wc.heap.size) (ni : Nat) (q0 : wc.cell? ⟨gx, 0, none⟩ = some (.int .i64 (ni : Int))) (hni : ni ≤ 60000) (HFL : Hid (∀ i, i < ni → (fI i).length ≤ 60)) (K' : Act → World → Prop) (Q0 : Exit → Act → World → Prop) (x0 x2 x5 x6 x7 x8 x9 x10 x11 x12 x13 x14 x15 x16 x17 x18 x19 x20 x21 x22 x23 x24 x25 x26 x27 x28 x29 x30 x31 x32 x33 x34 x35 x36 x37 x38 x39 x40 x41 x42 x43 x44 x45 x46 x47 x48 x49 x50 x51 x52 x53 x54 x55 x56 x57 x58 x59 x60 x61 x62 x63 x64 x65 x66 x67 x68 x69 x70 x71 x72 x73 x74 x75 x76 x77 x78 x79 x80 x81 x82 x83 x84 x85 x86 x87 x88 x89 x90 x91 x92 x93 x94 x95 x96 x97 x98 x99 x100 x101 x102 x103 x104 : Value)
    (HK : Hid (∀ (w' : World) (s4 s11 s12 s13 s14 s15 s16 s17 s18 s19 s20 s21 s22 s23 : Value), Below wc.heap.size wc w' → K' ⟨#[x0, .pointer (some ⟨gx, 0, none⟩), x2, .string (bs (t0 ++ cat fI ni)), s4, x5, x6, x7, x8, x9, x10, s11, s12, s13, s14, s15, s16, s17, s18, s19, s20, s21, s22, s23, x24, x25, x26, x27, x28, x29, x30, x31, x32, x33, x34, x35, x36, x37, x38, x39, x40, x41, x42, x43, x44, x45, x46, x47, x48, x49, x50, x51, x52, x53, x54, x55, x56, x57, x58, x59, x60, x61, x62, x63, x64, x65, x66, x67, x68, x69, x70, x71, x72, x73, x74, x75, x76, x77, x78, x79, x80, x81, x82, x83, x84, x85, x86, x87, x88, x89, x90, x91, x92, x93, x94, x95, x96, x97, x98, x99, x100, x101, x102, x103, x104], []⟩ w')) :
    Code.wp Tryd.prog ((Tryd.f6.body.bind (blockAt 0)).getD .skip) (Exit.then K' Q0) ⟨#[x0, .pointer (some ⟨gx, 0, none⟩), x2, .string (bs t0), .int .i64 0, x5, x6, x7, x8, x9, x10, x11, x12, x13, x14, x15, x16, x17, x18, x19, x20, x21, x22, x23, x24, x25, x26, x27, x28, x29, x30, x31, x32, x33, x34, x35, x36, x37, x38, x39, x40, x41, x42, x43, x44, x45, x46, x47, x48, x49, x50, x51, x52, x53, x54, x55, x56, x57, x58, x59, x60, x61, x62, x63, x64, x65, x66, x67, x68, x69, x70, x71, x72, x73, x74, x75, x76, x77, x78, x79, x80, x81, x82, x83, x84, x85, x86, x87, x88, x89, x90, x91, x92, x93, x94, x95, x96, x97, x98, x99, x100, x101, x102, x103, x104], []⟩ wc := by
  conv => arg 2; whnf
  go_wp2_with fail
  go_loopw [3, 4] (fun s' i' w' => ∃ (k : Nat), k ≤ ni ∧ i' = .int .i64 k ∧ s' = .string (bs (t0 ++ cat (fI) k)) ∧ Hid (Below wc.heap.size wc w')) (fun _ i' _ => ni - (intOf i').toNat)
  case atStart => exact ⟨0, Nat.zero_le _, rfl, by rw [cat_zero, List.append_nil], Below.refl _ _⟩
  case round =>
    obtain ⟨k, hk, rfl, rfl, HB⟩ := hrel
    by_cases hlt : k < ni
    · have hltI : (k : Int) < (ni : Int) := by omega
      have e3 : IntKind.i64.wrap ((k : Int) + 1) = (k : Int) + 1 := wrapI _ (by omega) (by omega)
      have HNX := hidden (cat_next (fI) k)
      have hlen : (t0 ++ cat (fI) k).length ≤ 100000 + 60 * 60000 * 4 := by
        rw [List.length_append]
        have := cat_len (f := fI) (m := 60) k (fun i hi => HFL.out i (by omega))
        omega
      have hcell := (HB.out.cell (p := ⟨gx, 0, none⟩) hgx).trans q0
      obtain ⟨d0, WH0, D0, l0⟩ := whole_of (2 * (1 + (k : Int))) (by omega) (by omega)
      have eA : IntKind.i64.wrap ((1 : Int) + (k : Int)) = (1 : Int) + (k : Int) := wrapI _ (by omega) (by omega)
      have eB : IntKind.i64.wrap (2 * ((1 : Int) + (k : Int))) = 2 * ((1 : Int) + (k : Int)) := wrapI _ (by omega) (by omega)
      generalize hT : t0 ++ cat (fI) k = t at *
      have HTT := hidden hT
      clear hT
      obtain ⟨z0, H0, L0, A0⟩ := add_to (bs t) (bs d0) t d0 rfl rfl (by omega)
      obtain ⟨z1, H1, L1, A1⟩ := add_to (bs z0) ⟨#[10]⟩ z0 [10] rfl rfl (by simp only [List.length_cons, List.length_nil]; omega)
      have HZ : Hid (z1 = t ++ fI k) := by show _ = _; rw [H1.out, H0.out, D0.out]; unfold fI; simp
      clear H0 H1 D0
      go_wp2_with fail
      go_at_call 15
      refine (WH0.out _).mono ?_
      rintro e w2 ⟨rfl, hb2⟩
      have HB2 : Hid (Below wc.heap.size wc w2) := HB.out.trans (hb2.mono HB.out.size)
      clear hb2 HB WH0 hcell
      go_wp2
      go_roundw
      case measure => simp [intOf]; omega
      case rel => exact ⟨k + 1, by omega, by simp, by rw [HNX.out, ← List.append_assoc, HTT.out]; exact congrArg (fun x => Value.string (bs x)) HZ.out, HB2.out⟩
    · have hge : ¬ ((k : Int) < (ni : Int)) := by omega
      have HEN : Hid (t0 ++ cat (fI) k = t0 ++ cat (fI) (ni)) := by show _ = _; rw [show k = ni by omega]
      have hcell := (HB.out.cell (p := ⟨gx, 0, none⟩) hgx).trans q0
      rw [HEN.out]
      go_wp2
      exact HK.out _ _ _ _ _ _ _ _ _ _ _ _ _ _ _ HB.out

set_option maxRecDepth 100000 in
set_option maxHeartbeats 4000000 in
theorem atOuts (wc : World) (t0 : List UInt8) (ht0 : t0.length ≤ 100000 + 60 * 60000 * 3) (gx : Nat) (hgx : gx < wc.heap.size) (G : GrD) (B n : Nat) (a : Option Addr) (c : Nat) (q0 : wc.cell? ⟨gx, 3, none⟩ = some (.slice a G.outs.length c)) (HR : Hid (RowAt B wc a 1 (G.outs.map intC))) (hBw : B ≤ wc.heap.size) (hn : n ≤ 60000) (hin : ∀ z, z ∈ G.outs → 0 ≤ z ∧ z < 2 * (n : Int)) (hlo : G.outs.length ≤ 60000) (HFL : Hid (∀ i, i < G.outs.length → (fO G i).length ≤ 60)) (K' : Act → World → Prop) (Q0 : Exit → Act → World → Prop) (x0 x2 x4 x5 x7 x8 x9 x10 x11 x12 x13 x14 x15 x16 x17 x18 x19 x20 x21 x22 x23 x24 x25 x26 x27 x28 x29 x30 x31 x32 x33 x34 x35 x36 x37 x38 x39 x40 x41 x42 x43 x44 x45 x46 x47 x48 x49 x50 x51 x52 x53 x54 x55 x56 x57 x58 x59 x60 x61 x62 x63 x64 x65 x66 x67 x68 x69 x70 x71 x72 x73 x74 x75 x76 x77 x78 x79 x80 x81 x82 x83 x84 x85 x86 x87 x88 x89 x90 x91 x92 x93 x94 x95 x96 x97 x98 x99 x100 x101 x102 x103 x104 : Value)
    (HK : Hid (∀ (w' : World) (s6 s48 s49 s50 s51 s52 s53 s54 s55 s56 s57 s58 s59 s60 s61 s62 s63 : Value), Below wc.heap.size wc w' → K' ⟨#[x0, .pointer (some ⟨gx, 0, none⟩), x2, .string (bs (t0 ++ cat (fO G) G.outs.length)), x4, x5, s6, x7, x8, x9, x10, x11, x12, x13, x14, x15, x16, x17, x18, x19, x20, x21, x22, x23, x24, x25, x26, x27, x28, x29, x30, x31, x32, x33, x34, x35, x36, x37, x38, x39, x40, x41, x42, x43, x44, x45, x46, x47, s48, s49, s50, s51, s52, s53, s54, s55, s56, s57, s58, s59, s60, s61, s62, s63, x64, x65, x66, x67, x68, x69, x70, x71, x72, x73, x74, x75, x76, x77, x78, x79, x80, x81, x82, x83, x84, x85, x86, x87, x88, x89, x90, x91, x92, x93, x94, x95, x96, x97, x98, x99, x100, x101, x102, x103, x104], []⟩ w')) :
    Code.wp Tryd.prog ((Tryd.f6.body.bind (blockAt 4)).getD .skip) (Exit.then K' Q0) ⟨#[x0, .pointer (some ⟨gx, 0, none⟩), x2, .string (bs t0), x4, x5, .int .i64 0, x7, x8, x9, x10, x11, x12, x13, x14, x15, x16, x17, x18, x19, x20, x21, x22, x23, x24, x25, x26, x27, x28, x29, x30, x31, x32, x33, x34, x35, x36, x37, x38, x39, x40, x41, x42, x43, x44, x45, x46, x47, x48, x49, x50, x51, x52, x53, x54, x55, x56, x57, x58, x59, x60, x61, x62, x63, x64, x65, x66, x67, x68, x69, x70, x71, x72, x73, x74, x75, x76, x77, x78, x79, x80, x81, x82, x83, x84, x85, x86, x87, x88, x89, x90, x91, x92, x93, x94, x95, x96, x97, x98, x99, x100, x101, x102, x103, x104], []⟩ wc := by
  conv => arg 2; whnf
  go_wp2_with fail
  go_loopw [3, 6] (fun s' i' w' => ∃ (k : Nat), k ≤ G.outs.length ∧ i' = .int .i64 k ∧ s' = .string (bs (t0 ++ cat (fO G) k)) ∧ Hid (Below wc.heap.size wc w')) (fun _ i' _ => G.outs.length - (intOf i').toNat)
  case atStart => exact ⟨0, Nat.zero_le _, rfl, by rw [cat_zero, List.append_nil], Below.refl _ _⟩
  case round =>
    obtain ⟨k, hk, rfl, rfl, HB⟩ := hrel
    by_cases hlt : k < G.outs.length
    · have hltI : (k : Int) < (G.outs.length : Int) := by omega
      have e3 : IntKind.i64.wrap ((k : Int) + 1) = (k : Int) + 1 := wrapI _ (by omega) (by omega)
      have HNX := hidden (cat_next (fO G) k)
      have hlen : (t0 ++ cat (fO G) k).length ≤ 100000 + 60 * 60000 * 4 := by
        rw [List.length_append]
        have := cat_len (f := fO G) (m := 60) k (fun i hi => HFL.out i (by omega))
        omega
      obtain ⟨x, hx⟩ : ∃ x, G.outs[k]? = some x := getElem_lt hlt
      obtain ⟨rb, ro, ea, hrb, hrc⟩ := HR.out.intR hx
      have hcell := (HB.out.cell (p := ⟨gx, 3, none⟩) hgx).trans q0
      rw [ea] at hcell
      have c1 := (HB.out.cell (p := ⟨rb, ro + k, none⟩) (by show rb < _; omega)).trans hrc
      have hxi := hin x (List.mem_of_getElem? hx)
      obtain ⟨d0, WH0, D0, l0⟩ := whole_of x hxi.1 (by omega)
      have HFK : Hid (fO G k = decI x ++ [10]) := by show _ = _; unfold fO; rw [hx]
      clear hrc ea hx hxi
      generalize hT : t0 ++ cat (fO G) k = t at *
      have HTT := hidden hT
      clear hT
      obtain ⟨z0, H0, L0, A0⟩ := add_to (bs t) (bs d0) t d0 rfl rfl (by omega)
      obtain ⟨z1, H1, L1, A1⟩ := add_to (bs z0) ⟨#[10]⟩ z0 [10] rfl rfl (by simp only [List.length_cons, List.length_nil]; omega)
      have HZ : Hid (z1 = t ++ fO G k) := by show _ = _; rw [H1.out, H0.out, D0.out, HFK.out]; simp
      clear H0 H1 D0 HFK
      go_wp2_with fail
      go_at_call 15
      refine (WH0.out _).mono ?_
      rintro e w2 ⟨rfl, hb2⟩
      have HB2 : Hid (Below wc.heap.size wc w2) := HB.out.trans (hb2.mono HB.out.size)
      clear hb2 HB WH0 hcell c1
      go_wp2
      go_roundw
      case measure => simp [intOf]; omega
      case rel => exact ⟨k + 1, by omega, by simp, by rw [HNX.out, ← List.append_assoc, HTT.out]; exact congrArg (fun x => Value.string (bs x)) HZ.out, HB2.out⟩
    · have hge : ¬ ((k : Int) < (G.outs.length : Int)) := by omega
      have HEN : Hid (t0 ++ cat (fO G) k = t0 ++ cat (fO G) (G.outs.length)) := by show _ = _; rw [show k = G.outs.length by omega]
      have hcell := (HB.out.cell (p := ⟨gx, 3, none⟩) hgx).trans q0
      rw [HEN.out]
      go_wp2
      exact HK.out _ _ _ _ _ _ _ _ _ _ _ _ _ _ _ _ _ _ HB.out

set_option maxRecDepth 100000 in
set_option maxHeartbeats 4000000 in
theorem atLats (wc : World) (t0 : List UInt8) (ht0 : t0.length ≤ 100000 + 60 * 60000 * 3) (gx : Nat) (hgx : gx < wc.heap.size) (G : GrD) (B n ni : Nat) (a : Option Addr) (c : Nat) (q0 : wc.cell? ⟨gx, 1, none⟩ = some (.slice a G.lats.length c)) (q1 : wc.cell? ⟨gx, 0, none⟩ = some (.int .i64 (ni : Int))) (hni : ni ≤ 60000) (HR : Hid (RowAt B wc a 2 (G.lats.map LatD.cells))) (hBw : B ≤ wc.heap.size) (hn : n ≤ 60000) (hin : ∀ z, z ∈ G.lats → 0 ≤ z.next ∧ z.next < 2 * (n : Int)) (hlo : G.lats.length ≤ 60000) (HFL : Hid (∀ i, i < G.lats.length → (fL G ni i).length ≤ 60)) (K' : Act → World → Prop) (Q0 : Exit → Act → World → Prop) (x0 x2 x4 x6 x7 x8 x9 x10 x11 x12 x13 x14 x15 x16 x17 x18 x19 x20 x21 x22 x23 x24 x25 x26 x27 x28 x29 x30 x31 x32 x33 x34 x35 x36 x37 x38 x39 x40 x41 x42 x43 x44 x45 x46 x47 x48 x49 x50 x51 x52 x53 x54 x55 x56 x57 x58 x59 x60 x61 x62 x63 x64 x65 x66 x67 x68 x69 x70 x71 x72 x73 x74 x75 x76 x77 x78 x79 x80 x81 x82 x83 x84 x85 x86 x87 x88 x89 x90 x91 x92 x93 x94 x95 x96 x97 x98 x99 x100 x101 x102 x103 x104 : Value)
    (HK : Hid (∀ (w' : World) (s5 s24 s25 s26 s27 s28 s29 s30 s31 s32 s33 s34 s35 s36 s37 s38 s39 s40 s41 s42 s43 s44 s45 s46 s47 : Value), Below wc.heap.size wc w' → K' ⟨#[x0, .pointer (some ⟨gx, 0, none⟩), x2, .string (bs (t0 ++ cat (fL G ni) G.lats.length)), x4, s5, x6, x7, x8, x9, x10, x11, x12, x13, x14, x15, x16, x17, x18, x19, x20, x21, x22, x23, s24, s25, s26, s27, s28, s29, s30, s31, s32, s33, s34, s35, s36, s37, s38, s39, s40, s41, s42, s43, s44, s45, s46, s47, x48, x49, x50, x51, x52, x53, x54, x55, x56, x57, x58, x59, x60, x61, x62, x63, x64, x65, x66, x67, x68, x69, x70, x71, x72, x73, x74, x75, x76, x77, x78, x79, x80, x81, x82, x83, x84, x85, x86, x87, x88, x89, x90, x91, x92, x93, x94, x95, x96, x97, x98, x99, x100, x101, x102, x103, x104], []⟩ w')) :
    Code.wp Tryd.prog ((Tryd.f6.body.bind (blockAt 2)).getD .skip) (Exit.then K' Q0) ⟨#[x0, .pointer (some ⟨gx, 0, none⟩), x2, .string (bs t0), x4, .int .i64 0, x6, x7, x8, x9, x10, x11, x12, x13, x14, x15, x16, x17, x18, x19, x20, x21, x22, x23, x24, x25, x26, x27, x28, x29, x30, x31, x32, x33, x34, x35, x36, x37, x38, x39, x40, x41, x42, x43, x44, x45, x46, x47, x48, x49, x50, x51, x52, x53, x54, x55, x56, x57, x58, x59, x60, x61, x62, x63, x64, x65, x66, x67, x68, x69, x70, x71, x72, x73, x74, x75, x76, x77, x78, x79, x80, x81, x82, x83, x84, x85, x86, x87, x88, x89, x90, x91, x92, x93, x94, x95, x96, x97, x98, x99, x100, x101, x102, x103, x104], []⟩ wc := by
  conv => arg 2; whnf
  go_wp2_with fail
  go_loopw [3, 5] (fun s' i' w' => ∃ (k : Nat), k ≤ G.lats.length ∧ i' = .int .i64 k ∧ s' = .string (bs (t0 ++ cat (fL G ni) k)) ∧ Hid (Below wc.heap.size wc w')) (fun _ i' _ => G.lats.length - (intOf i').toNat)
  case atStart => exact ⟨0, Nat.zero_le _, rfl, by rw [cat_zero, List.append_nil], Below.refl _ _⟩
  case round =>
    obtain ⟨k, hk, rfl, rfl, HB⟩ := hrel
    by_cases hlt : k < G.lats.length
    · have hltI : (k : Int) < (G.lats.length : Int) := by omega
      have e3 : IntKind.i64.wrap ((k : Int) + 1) = (k : Int) + 1 := wrapI _ (by omega) (by omega)
      have HNX := hidden (cat_next (fL G ni) k)
      have hlen : (t0 ++ cat (fL G ni) k).length ≤ 100000 + 60 * 60000 * 4 := by
        rw [List.length_append]
        have := cat_len (f := fL G ni) (m := 60) k (fun i hi => HFL.out i (by omega))
        omega
      obtain ⟨x, hx⟩ : ∃ x, G.lats[k]? = some x := getElem_lt hlt
      obtain ⟨rb, ro, ea, hrb, hrc⟩ := HR.out.el hx
      obtain ⟨nx, ini⟩ := x
      have hcell := (HB.out.cell (p := ⟨gx, 1, none⟩) hgx).trans q0
      have hcell0 := (HB.out.cell (p := ⟨gx, 0, none⟩) hgx).trans q1
      rw [ea] at hcell
      have c1 : wr.cell? ⟨rb, ro + k * 2, none⟩ = some (.int .i64 nx) := (HB.out.cell (p := ⟨rb, ro + k * 2, none⟩) (by show rb < _; omega)).trans (hrc 0 _ rfl)
      have c2 : wr.cell? ⟨rb, ro + k * 2 + 1, none⟩ = some (.bool ini) := (HB.out.cell (p := ⟨rb, ro + k * 2 + 1, none⟩) (by show rb < _; omega)).trans (hrc 1 _ rfl)
      have hxi := hin _ (List.mem_of_getElem? hx)
      simp only at hxi
      obtain ⟨d0, WH0, D0, l0⟩ := whole_of (2 * (1 + (ni : Int) + (k : Int))) (by omega) (by omega)
      have FT : Hid (∀ w', Calls Tryd.prog 16 #[.agg #[.int .i64 nx, .bool ini]] w' fun e w'' => e = .returned (.string (bs (firstT ⟨nx, ini⟩))) ∧ Below w'.heap.size w' w'') := fun w' => first_any ⟨nx, ini⟩ hxi.1 (by simp only; omega) w'
      have hfl := firstT_len (l := ⟨nx, ini⟩) (by simp only; omega)
      have HFK : Hid (fL G ni k = decI (2 * (1 + (ni : Int) + (k : Int))) ++ [32] ++ firstT ⟨nx, ini⟩) := by show _ = _; unfold fL; rw [hx]
      have eA : IntKind.i64.wrap ((1 : Int) + (ni : Int)) = (1 : Int) + (ni : Int) := wrapI _ (by omega) (by omega)
      have eB : IntKind.i64.wrap ((1 : Int) + (ni : Int) + (k : Int)) = (1 : Int) + (ni : Int) + (k : Int) := wrapI _ (by omega) (by omega)
      have eC : IntKind.i64.wrap (2 * ((1 : Int) + (ni : Int) + (k : Int))) = 2 * ((1 : Int) + (ni : Int) + (k : Int)) := wrapI _ (by omega) (by omega)
      have hrbw : rb < wr.heap.size := by have := HB.out.size; omega
      have hgxw : gx < wr.heap.size := by have := HB.out.size; omega
      generalize firstT ⟨nx, ini⟩ = ft at *
      clear hrc ea hx hxi
      generalize hT : t0 ++ cat (fL G ni) k = t at *
      have HTT := hidden hT
      clear hT
      obtain ⟨z0, H0, L0, A0⟩ := add_to (bs t) (bs d0) t d0 rfl rfl (by omega)
      obtain ⟨z1, H1, L1, A1⟩ := add_to (bs z0) ⟨#[32]⟩ z0 [32] rfl rfl (by simp only [List.length_cons, List.length_nil]; omega)
      obtain ⟨z2, H2, L2, A2⟩ := add_to (bs z1) (bs ft) z1 ft rfl rfl (by simp only [List.length_cons, List.length_nil] at *; omega)
      have HZ : Hid (z2 = t ++ fL G ni k) := by show _ = _; rw [H2.out, H1.out, H0.out, D0.out, HFK.out]; simp
      clear H0 H1 H2 D0 HFK
      go_upto_region 9 with fail
      (
      refine wp_region_noPanic ?_
      refine wp_region_held_drew (S := (fun w' => Below wr.heap.size wr w' ∧ (∀ b' o, b' < wr.heap.size → w'.cell? ⟨b', o, none⟩ = wr.cell? ⟨b', o, none⟩))) (by kernel_rfl) (by first | assumption | exact sees_drew _ | exact sees_call (by assumption) (by assumption)) (fun hHeld => ?_)
      refine wpAnyH_take (i := 0) (oi := _) (v := ?_) rfl (by kernel_rfl) (by kernel_rfl) (by kernel_rfl) (fun _ _ _ h => h) (Or.inl ⟨by rfl, ?_⟩) (by assumption) ?_
      rotate_left
      · (intro w0 hSw; (try dsimp only at hSw); (try simp only [List.getElem_toArray, List.getElem_cons_zero]); go_simp; try (with_reducible rfl))
      try simp only [Act.put, List.getElem_toArray, List.getElem_cons_zero, List.setIfInBounds_toArray, List.set_cons_zero, List.set_cons_succ]
      refine wpAnyH_take (i := 1) (oi := _) (v := ?_) rfl (by kernel_rfl) (by kernel_rfl) (by kernel_rfl) (fun _ _ _ h => h) (Or.inl ⟨by rfl, ?_⟩) (by assumption) ?_
      rotate_left
      · (intro w0 hSw; (try dsimp only at hSw); (try simp only [List.getElem_toArray, List.getElem_cons_zero, List.getElem_cons_succ]); go_simp; try (with_reducible rfl))
      try simp only [Act.put, List.getElem_toArray, List.getElem_cons_zero, List.getElem_cons_succ, List.setIfInBounds_toArray, List.set_cons_zero, List.set_cons_succ]
      refine wpAnyH_take (i := 2) (oi := _) (v := ?_) rfl (by kernel_rfl) (by kernel_rfl) (by kernel_rfl) (fun _ _ _ h => h) (Or.inl ⟨by rfl, ?_⟩) (by assumption) ?_
      rotate_left
      · (intro w0 hSw; (try dsimp only at hSw); (try simp only [List.getElem_toArray, List.getElem_cons_zero, List.getElem_cons_succ]); go_simp; try (with_reducible rfl))
      try simp only [Act.put, List.getElem_toArray, List.getElem_cons_zero, List.getElem_cons_succ, List.setIfInBounds_toArray, List.set_cons_zero, List.set_cons_succ]
      refine wpAnyH_take (i := 3) (oi := _) (v := ?_) rfl (by kernel_rfl) (by kernel_rfl) (by kernel_rfl) (fun _ _ _ h => h) (Or.inl ⟨by rfl, ?_⟩) (by assumption) ?_
      rotate_left
      · (intro w0 hSw; (try dsimp only at hSw); (try simp only [List.getElem_toArray, List.getElem_cons_zero, List.getElem_cons_succ]); go_simp; try (with_reducible rfl))
      try simp only [Act.put, List.getElem_toArray, List.getElem_cons_zero, List.getElem_cons_succ, List.setIfInBounds_toArray, List.set_cons_zero, List.set_cons_succ]
      refine wpAnyH_take (i := 4) (oi := _) (v := ?_) rfl (by kernel_rfl) (by kernel_rfl) (by kernel_rfl) (fun _ _ _ h => h) (Or.inl ⟨by rfl, ?_⟩) (by assumption) ?_
      rotate_left
      · (intro w0 hSw; (try dsimp only at hSw); (try simp only [List.getElem_toArray, List.getElem_cons_zero, List.getElem_cons_succ]); go_simp; try (with_reducible rfl))
      try simp only [Act.put, List.getElem_toArray, List.getElem_cons_zero, List.getElem_cons_succ, List.setIfInBounds_toArray, List.set_cons_zero, List.set_cons_succ]
      refine wpAnyH_take (i := 5) (oi := _) (v := ?_) rfl (by kernel_rfl) (by kernel_rfl) (by kernel_rfl) (fun _ _ _ h => h) (Or.inl ⟨by rfl, ?_⟩) (by assumption) ?_
      rotate_left
      · (intro w0 hSw; (try dsimp only at hSw); (try simp only [List.getElem_toArray, List.getElem_cons_zero, List.getElem_cons_succ]); go_simp; try (with_reducible rfl))
      try simp only [Act.put, List.getElem_toArray, List.getElem_cons_zero, List.getElem_cons_succ, List.setIfInBounds_toArray, List.set_cons_zero, List.set_cons_succ]
      refine wpAnyH_take (i := 6) (oi := _) (v := ?_) rfl (by kernel_rfl) (by kernel_rfl) (by kernel_rfl) (fun _ _ _ h => h) (Or.inl ⟨by rfl, ?_⟩) (by assumption) ?_
      rotate_left
      · (intro w0 hSw; (try dsimp only at hSw); (try simp only [List.getElem_toArray, List.getElem_cons_zero, List.getElem_cons_succ]); go_simp; try (with_reducible rfl))
      try simp only [Act.put, List.getElem_toArray, List.getElem_cons_zero, List.getElem_cons_succ, List.setIfInBounds_toArray, List.set_cons_zero, List.set_cons_succ]
      refine wpAnyH_take (i := 10) (oi := _) (v := ?_) rfl (by kernel_rfl) (by kernel_rfl) (by kernel_rfl) (fun _ _ _ h => h) (Or.inl ⟨by rfl, ?_⟩) (by assumption) ?_
      rotate_left
      · (intro w0 hSw; (try dsimp only at hSw); (try simp only [List.getElem_toArray, List.getElem_cons_zero, List.getElem_cons_succ]); go_simp; try (with_reducible rfl))
      try simp only [Act.put, List.getElem_toArray, List.getElem_cons_zero, List.getElem_cons_succ, List.setIfInBounds_toArray, List.set_cons_zero, List.set_cons_succ]
      refine wpAnyH_take (i := 11) (oi := _) (v := ?_) rfl (by kernel_rfl) (by kernel_rfl) (by kernel_rfl) (fun _ _ _ h => h) (Or.inl ⟨by rfl, ?_⟩) (by assumption) ?_
      rotate_left
      · (intro w0 hSw; (try dsimp only at hSw); (try simp only [List.getElem_toArray, List.getElem_cons_zero, List.getElem_cons_succ]); go_simp; try (with_reducible rfl))
      try simp only [Act.put, List.getElem_toArray, List.getElem_cons_zero, List.getElem_cons_succ, List.setIfInBounds_toArray, List.set_cons_zero, List.set_cons_succ]
      refine wpAnyH_take (i := 12) (oi := _) (v := ?_) rfl (by kernel_rfl) (by kernel_rfl) (by kernel_rfl) (fun _ _ _ h => h) (Or.inl ⟨by rfl, ?_⟩) (by assumption) ?_
      rotate_left
      · (intro w0 hSw; (try dsimp only at hSw); (try simp only [List.getElem_toArray, List.getElem_cons_zero, List.getElem_cons_succ]); go_simp; try (with_reducible rfl))
      try simp only [Act.put, List.getElem_toArray, List.getElem_cons_zero, List.getElem_cons_succ, List.setIfInBounds_toArray, List.set_cons_zero, List.set_cons_succ]
      refine wpAnyH_take (i := 13) (oi := _) (v := ?_) rfl (by kernel_rfl) (by kernel_rfl) (by kernel_rfl) (fun _ _ _ h => h) (Or.inl ⟨by rfl, ?_⟩) (by assumption) ?_
      rotate_left
      · (intro w0 hSw; (try dsimp only at hSw); (try simp only [List.getElem_toArray, List.getElem_cons_zero, List.getElem_cons_succ]); go_simp; try (with_reducible rfl))
      try simp only [Act.put, List.getElem_toArray, List.getElem_cons_zero, List.getElem_cons_succ, List.setIfInBounds_toArray, List.set_cons_zero, List.set_cons_succ]
      refine wpAnyH_take (i := 14) (oi := _) (v := ?_) rfl (by kernel_rfl) (by kernel_rfl) (by kernel_rfl) (fun _ _ _ h => h) (Or.inl ⟨by rfl, ?_⟩) (by assumption) ?_
      rotate_left
      · (intro w0 hSw; (try dsimp only at hSw); (try simp only [List.getElem_toArray, List.getElem_cons_zero, List.getElem_cons_succ]); go_simp; try (with_reducible rfl))
      try simp only [Act.put, List.getElem_toArray, List.getElem_cons_zero, List.getElem_cons_succ, List.setIfInBounds_toArray, List.set_cons_zero, List.set_cons_succ]
      refine wpAnyH_ready (rs := [7]) (by kernel_rfl) (by simp) ?_
      refine AllReadyH.cons (o := _) rfl (fun K hK => ?_) AllReadyH.nil
      (try simp only [List.getElem_toArray, List.getElem_cons_zero, List.getElem_cons_succ])
      go_simp
      go_at_call 15
      refine (WH0.out _).mono ?_
      rintro e w2 ⟨rfl, hb2⟩
      go_wp2_with fail
      refine hK.out _ _ (by first | assumption | exact sees_drew _ | exact sees_call (by assumption) (by assumption)) (fun hHeld1 => ?_)
      clear hK K
      try simp only [Act.put, List.setIfInBounds_toArray, List.set_cons_zero, List.set_cons_succ]
      refine wpAnyH_take (i := 8) (oi := _) (v := ?_) rfl (by kernel_rfl) (by kernel_rfl) (by kernel_rfl) (fun _ _ _ h => h) (Or.inl ⟨by rfl, ?_⟩) (by assumption) ?_
      rotate_left
      · (intro w0 hSw; (try dsimp only at hSw); (try simp only [List.getElem_toArray, List.getElem_cons_zero, List.getElem_cons_succ]); go_simp; try (with_reducible rfl))
      try simp only [Act.put, List.getElem_toArray, List.getElem_cons_zero, List.getElem_cons_succ, List.setIfInBounds_toArray, List.set_cons_zero, List.set_cons_succ]
      refine wpAnyH_take (i := 9) (oi := _) (v := ?_) rfl (by kernel_rfl) (by kernel_rfl) (by kernel_rfl) (fun _ _ _ h => h) (Or.inl ⟨by rfl, ?_⟩) (by assumption) ?_
      rotate_left
      · (intro w0 hSw; (try dsimp only at hSw); (try simp only [List.getElem_toArray, List.getElem_cons_zero, List.getElem_cons_succ]); go_simp; try (with_reducible rfl))
      try simp only [Act.put, List.getElem_toArray, List.getElem_cons_zero, List.getElem_cons_succ, List.setIfInBounds_toArray, List.set_cons_zero, List.set_cons_succ]
      refine wpAnyH_ready (rs := [15]) (by kernel_rfl) (by simp) ?_
      refine AllReadyH.cons (o := _) rfl (fun K hK => ?_) AllReadyH.nil
      (try simp only [List.getElem_toArray, List.getElem_cons_zero, List.getElem_cons_succ])
      go_simp
      go_at_call 16
      refine (FT.out _).mono ?_
      rintro e w2 ⟨rfl, hb2⟩
      go_wp2_with fail
      refine hK.out _ _ (by first | assumption | exact sees_drew _ | exact sees_call (by assumption) (by assumption)) (fun hHeld2 => ?_)
      clear hK K
      try simp only [Act.put, List.setIfInBounds_toArray, List.set_cons_zero, List.set_cons_succ]
      refine wpAnyH_take (i := 16) (oi := _) (v := ?_) rfl (by kernel_rfl) (by kernel_rfl) (by kernel_rfl) (fun _ _ _ h => h) (Or.inl ⟨by rfl, ?_⟩) (by assumption) ?_
      rotate_left
      · (intro w0 hSw; (try dsimp only at hSw); (try simp only [List.getElem_toArray, List.getElem_cons_zero, List.getElem_cons_succ]); go_simp; try (with_reducible rfl))
      try simp only [Act.put, List.getElem_toArray, List.getElem_cons_zero, List.getElem_cons_succ, List.setIfInBounds_toArray, List.set_cons_zero, List.set_cons_succ]
      refine wpAnyH_take (i := 17) (oi := _) (v := ?_) rfl (by kernel_rfl) (by kernel_rfl) (by kernel_rfl) (fun _ _ _ h => h) (Or.inl ⟨by rfl, ?_⟩) (by assumption) ?_
      rotate_left
      · (intro w0 hSw; (try dsimp only at hSw); (try simp only [List.getElem_toArray, List.getElem_cons_zero, List.getElem_cons_succ]); go_simp; try (with_reducible rfl))
      try simp only [Act.put, List.getElem_toArray, List.getElem_cons_zero, List.getElem_cons_succ, List.setIfInBounds_toArray, List.set_cons_zero, List.set_cons_succ]
      refine wpAnyH_done (by kernel_rfl) ?_ _
      refine NoPanic.normal ?_
      )
      have HB2 : Hid (Below wc.heap.size wc w2) := HB.out.trans (Below.mono (And.left (by assumption)) HB.out.size)
      clear HB WH0 hcell hcell0 c1 c2 FT
      go_wp2
      go_roundw
      case measure => simp [intOf]; omega
      case rel => exact ⟨k + 1, by omega, by simp, by rw [HNX.out, ← List.append_assoc, HTT.out]; exact congrArg (fun x => Value.string (bs x)) HZ.out, HB2.out⟩
    · have hge : ¬ ((k : Int) < (G.lats.length : Int)) := by omega
      have HEN : Hid (t0 ++ cat (fL G ni) k = t0 ++ cat (fL G ni) (G.lats.length)) := by show _ = _; rw [show k = G.lats.length by omega]
      have hcell := (HB.out.cell (p := ⟨gx, 1, none⟩) hgx).trans q0
      rw [HEN.out]
      go_wp2
      exact HK.out _ _ _ _ _ _ _ _ _ _ _ _ _ _ _ _ _ _ _ _ _ _ _ _ _ _ HB.out

set_option maxRecDepth 100000 in
set_option maxHeartbeats 4000000 in
theorem atAnds (wc : World) (t0 : List UInt8) (ht0 : t0.length ≤ 100000 + 60 * 60000 * 3) (gx : Nat) (hgx : gx < wc.heap.size) (G : GrD) (B n first : Nat) (a : Option Addr) (c : Nat) (q0 : wc.cell? ⟨gx, 2, none⟩ = some (.slice a G.ands.length c)) (HR : Hid (RowAt B wc a 2 (G.ands.map AndD.cells))) (hBw : B ≤ wc.heap.size) (hn : n ≤ 60000) (hfn : first + G.ands.length = n) (hin : ∀ (k : Nat) (d : AndD), G.ands[k]? = some d → (0 ≤ d.x ∧ d.x < 2 * ((first + k : Nat) : Int)) ∧ (0 ≤ d.y ∧ d.y < 2 * ((first + k : Nat) : Int))) (HFL : Hid (∀ i, i < G.ands.length → (fA G first i).length ≤ 60)) (K' : Act → World → Prop) (Q0 : Exit → Act → World → Prop) (x0 x2 x4 x5 x6 x9 x10 x11 x12 x13 x14 x15 x16 x17 x18 x19 x20 x21 x22 x23 x24 x25 x26 x27 x28 x29 x30 x31 x32 x33 x34 x35 x36 x37 x38 x39 x40 x41 x42 x43 x44 x45 x46 x47 x48 x49 x50 x51 x52 x53 x54 x55 x56 x57 x58 x59 x60 x61 x62 x63 x64 x65 x66 x67 x68 x69 x70 x71 x72 x73 x74 x75 x76 x77 x78 x79 x80 x81 x82 x83 x84 x85 x86 x87 x88 x89 x90 x91 x92 x93 x94 x95 x96 x97 x98 x99 x100 x101 x102 x103 x104 : Value)
    (HK : Hid (∀ (w' : World) (s8 s71 s72 s73 s74 s75 s76 s77 s78 s79 s80 s81 s82 s83 s84 s85 s86 s87 s88 s89 s90 s91 s92 s93 s94 s95 s96 s97 s98 s99 s100 s101 s102 s103 : Value), Below wc.heap.size wc w' → K' ⟨#[x0, .pointer (some ⟨gx, 0, none⟩), x2, .string (bs (t0 ++ cat (fA G first) G.ands.length)), x4, x5, x6, .int .i64 (first : Int), s8, x9, x10, x11, x12, x13, x14, x15, x16, x17, x18, x19, x20, x21, x22, x23, x24, x25, x26, x27, x28, x29, x30, x31, x32, x33, x34, x35, x36, x37, x38, x39, x40, x41, x42, x43, x44, x45, x46, x47, x48, x49, x50, x51, x52, x53, x54, x55, x56, x57, x58, x59, x60, x61, x62, x63, x64, x65, x66, x67, x68, x69, x70, s71, s72, s73, s74, s75, s76, s77, s78, s79, s80, s81, s82, s83, s84, s85, s86, s87, s88, s89, s90, s91, s92, s93, s94, s95, s96, s97, s98, s99, s100, s101, s102, s103, x104], []⟩ w')) :
    Code.wp Tryd.prog ((Tryd.f6.body.bind (blockAt 6)).getD .skip) (Exit.then K' Q0) ⟨#[x0, .pointer (some ⟨gx, 0, none⟩), x2, .string (bs t0), x4, x5, x6, .int .i64 (first : Int), .int .i64 0, x9, x10, x11, x12, x13, x14, x15, x16, x17, x18, x19, x20, x21, x22, x23, x24, x25, x26, x27, x28, x29, x30, x31, x32, x33, x34, x35, x36, x37, x38, x39, x40, x41, x42, x43, x44, x45, x46, x47, x48, x49, x50, x51, x52, x53, x54, x55, x56, x57, x58, x59, x60, x61, x62, x63, x64, x65, x66, x67, x68, x69, x70, x71, x72, x73, x74, x75, x76, x77, x78, x79, x80, x81, x82, x83, x84, x85, x86, x87, x88, x89, x90, x91, x92, x93, x94, x95, x96, x97, x98, x99, x100, x101, x102, x103, x104], []⟩ wc := by
  conv => arg 2; whnf
  go_wp2_with fail
  go_loopw [3, 8] (fun s' i' w' => ∃ (k : Nat), k ≤ G.ands.length ∧ i' = .int .i64 k ∧ s' = .string (bs (t0 ++ cat (fA G first) k)) ∧ Hid (Below wc.heap.size wc w')) (fun _ i' _ => G.ands.length - (intOf i').toNat)
  case atStart => exact ⟨0, Nat.zero_le _, rfl, by rw [cat_zero, List.append_nil], Below.refl _ _⟩
  case round =>
    obtain ⟨k, hk, rfl, rfl, HB⟩ := hrel
    by_cases hlt : k < G.ands.length
    · have hltI : (k : Int) < (G.ands.length : Int) := by omega
      have e3 : IntKind.i64.wrap ((k : Int) + 1) = (k : Int) + 1 := wrapI _ (by omega) (by omega)
      have HNX := hidden (cat_next (fA G first) k)
      have hlen : (t0 ++ cat (fA G first) k).length ≤ 100000 + 60 * 60000 * 4 := by
        rw [List.length_append]
        have := cat_len (f := fA G first) (m := 60) k (fun i hi => HFL.out i (by omega))
        omega
      obtain ⟨x, hx⟩ : ∃ x, G.ands[k]? = some x := getElem_lt hlt
      obtain ⟨rb, ro, ea, hrb, hrc⟩ := HR.out.el hx
      have hxi := hin k x hx
      obtain ⟨dx, dy⟩ := x
      have hcell := (HB.out.cell (p := ⟨gx, 2, none⟩) hgx).trans q0
      rw [ea] at hcell
      have c1 : wr.cell? ⟨rb, ro + k * 2, none⟩ = some (.int .i64 dx) := (HB.out.cell (p := ⟨rb, ro + k * 2, none⟩) (by show rb < _; omega)).trans (hrc 0 _ rfl)
      have c2 : wr.cell? ⟨rb, ro + k * 2 + 1, none⟩ = some (.int .i64 dy) := (HB.out.cell (p := ⟨rb, ro + k * 2 + 1, none⟩) (by show rb < _; omega)).trans (hrc 1 _ rfl)
      simp only at hxi
      obtain ⟨d0, WH0, D0, l0⟩ := whole_of (2 * ((first : Int) + (k : Int))) (by omega) (by omega)
      obtain ⟨d1, WH1, D1, l1⟩ := whole_of dx hxi.1.1 (by omega)
      obtain ⟨d2, WH2, D2, l2⟩ := whole_of dy hxi.2.1 (by omega)
      have HFK : Hid (fA G first k = decI (2 * ((first : Int) + (k : Int))) ++ [32] ++ decI dx ++ [32] ++ decI dy ++ [10]) := by show _ = _; unfold fA; rw [hx]
      have eB : IntKind.i64.wrap ((first : Int) + (k : Int)) = (first : Int) + (k : Int) := wrapI _ (by omega) (by omega)
      have eC : IntKind.i64.wrap (2 * ((first : Int) + (k : Int))) = 2 * ((first : Int) + (k : Int)) := wrapI _ (by omega) (by omega)
      have hrbw : rb < wr.heap.size := by have := HB.out.size; omega
      have hgxw : gx < wr.heap.size := by have := HB.out.size; omega
      clear hrc ea hx hxi
      generalize hT : t0 ++ cat (fA G first) k = t at *
      have HTT := hidden hT
      clear hT
      obtain ⟨z0, H0, L0, A0⟩ := add_to (bs t) (bs d0) t d0 rfl rfl (by omega)
      obtain ⟨z1, H1, L1, A1⟩ := add_to (bs z0) ⟨#[32]⟩ z0 [32] rfl rfl (by simp only [List.length_cons, List.length_nil]; omega)
      obtain ⟨z2, H2, L2, A2⟩ := add_to (bs z1) (bs d1) z1 d1 rfl rfl (by simp only [List.length_cons, List.length_nil] at *; omega)
      obtain ⟨z3, H3, L3, A3⟩ := add_to (bs z2) ⟨#[32]⟩ z2 [32] rfl rfl (by simp only [List.length_cons, List.length_nil] at *; omega)
      obtain ⟨z4, H4, L4, A4⟩ := add_to (bs z3) (bs d2) z3 d2 rfl rfl (by simp only [List.length_cons, List.length_nil] at *; omega)
      obtain ⟨z5, H5, L5, A5⟩ := add_to (bs z4) ⟨#[10]⟩ z4 [10] rfl rfl (by simp only [List.length_cons, List.length_nil] at *; omega)
      have HZ : Hid (z5 = t ++ fA G first k) := by show _ = _; rw [H5.out, H4.out, H3.out, H2.out, H1.out, H0.out, D0.out, D1.out, D2.out, HFK.out]; simp
      clear H0 H1 H2 H3 H4 H5 D0 D1 D2 HFK
      go_upto_region 18 with fail
      (
      refine wp_region_noPanic ?_
      refine wp_region_held_drew (S := (fun w' => Below wr.heap.size wr w' ∧ (∀ b' o, b' < wr.heap.size → w'.cell? ⟨b', o, none⟩ = wr.cell? ⟨b', o, none⟩))) (by kernel_rfl) (by first | assumption | exact sees_drew _ | exact sees_call (by assumption) (by assumption)) (fun hHeld => ?_)
      refine wpAnyH_take (i := 0) (oi := _) (v := ?_) rfl (by kernel_rfl) (by kernel_rfl) (by kernel_rfl) (fun _ _ _ h => h) (Or.inl ⟨by rfl, ?_⟩) (by assumption) ?_
      rotate_left
      · (intro w0 hSw; (try dsimp only at hSw); (try simp only [List.getElem_toArray, List.getElem_cons_zero]); go_simp; try (with_reducible rfl))
      try simp only [Act.put, List.getElem_toArray, List.getElem_cons_zero, List.setIfInBounds_toArray, List.set_cons_zero, List.set_cons_succ]
      refine wpAnyH_take (i := 1) (oi := _) (v := ?_) rfl (by kernel_rfl) (by kernel_rfl) (by kernel_rfl) (fun _ _ _ h => h) (Or.inl ⟨by rfl, ?_⟩) (by assumption) ?_
      rotate_left
      · (intro w0 hSw; (try dsimp only at hSw); (try simp only [List.getElem_toArray, List.getElem_cons_zero, List.getElem_cons_succ]); go_simp; try (with_reducible rfl))
      try simp only [Act.put, List.getElem_toArray, List.getElem_cons_zero, List.getElem_cons_succ, List.setIfInBounds_toArray, List.set_cons_zero, List.set_cons_succ]
      refine wpAnyH_take (i := 2) (oi := _) (v := ?_) rfl (by kernel_rfl) (by kernel_rfl) (by kernel_rfl) (fun _ _ _ h => h) (Or.inl ⟨by rfl, ?_⟩) (by assumption) ?_
      rotate_left
      · (intro w0 hSw; (try dsimp only at hSw); (try simp only [List.getElem_toArray, List.getElem_cons_zero, List.getElem_cons_succ]); go_simp; try (with_reducible rfl))
      try simp only [Act.put, List.getElem_toArray, List.getElem_cons_zero, List.getElem_cons_succ, List.setIfInBounds_toArray, List.set_cons_zero, List.set_cons_succ]
      refine wpAnyH_take (i := 3) (oi := _) (v := ?_) rfl (by kernel_rfl) (by kernel_rfl) (by kernel_rfl) (fun _ _ _ h => h) (Or.inl ⟨by rfl, ?_⟩) (by assumption) ?_
      rotate_left
      · (intro w0 hSw; (try dsimp only at hSw); (try simp only [List.getElem_toArray, List.getElem_cons_zero, List.getElem_cons_succ]); go_simp; try (with_reducible rfl))
      try simp only [Act.put, List.getElem_toArray, List.getElem_cons_zero, List.getElem_cons_succ, List.setIfInBounds_toArray, List.set_cons_zero, List.set_cons_succ]
      refine wpAnyH_take (i := 4) (oi := _) (v := ?_) rfl (by kernel_rfl) (by kernel_rfl) (by kernel_rfl) (fun _ _ _ h => h) (Or.inl ⟨by rfl, ?_⟩) (by assumption) ?_
      rotate_left
      · (intro w0 hSw; (try dsimp only at hSw); (try simp only [List.getElem_toArray, List.getElem_cons_zero, List.getElem_cons_succ]); go_simp; try (with_reducible rfl))
      try simp only [Act.put, List.getElem_toArray, List.getElem_cons_zero, List.getElem_cons_succ, List.setIfInBounds_toArray, List.set_cons_zero, List.set_cons_succ]
      refine wpAnyH_take (i := 8) (oi := _) (v := ?_) rfl (by kernel_rfl) (by kernel_rfl) (by kernel_rfl) (fun _ _ _ h => h) (Or.inl ⟨by rfl, ?_⟩) (by assumption) ?_
      rotate_left
      · (intro w0 hSw; (try dsimp only at hSw); (try simp only [List.getElem_toArray, List.getElem_cons_zero, List.getElem_cons_succ]); go_simp; try (with_reducible rfl))
      try simp only [Act.put, List.getElem_toArray, List.getElem_cons_zero, List.getElem_cons_succ, List.setIfInBounds_toArray, List.set_cons_zero, List.set_cons_succ]
      refine wpAnyH_take (i := 9) (oi := _) (v := ?_) rfl (by kernel_rfl) (by kernel_rfl) (by kernel_rfl) (fun _ _ _ h => h) (Or.inl ⟨by rfl, ?_⟩) (by assumption) ?_
      rotate_left
      · (intro w0 hSw; (try dsimp only at hSw); (try simp only [List.getElem_toArray, List.getElem_cons_zero, List.getElem_cons_succ]); go_simp; try (with_reducible rfl))
      try simp only [Act.put, List.getElem_toArray, List.getElem_cons_zero, List.getElem_cons_succ, List.setIfInBounds_toArray, List.set_cons_zero, List.set_cons_succ]
      refine wpAnyH_take (i := 10) (oi := _) (v := ?_) rfl (by kernel_rfl) (by kernel_rfl) (by kernel_rfl) (fun _ _ _ h => h) (Or.inl ⟨by rfl, ?_⟩) (by assumption) ?_
      rotate_left
      · (intro w0 hSw; (try dsimp only at hSw); (try simp only [List.getElem_toArray, List.getElem_cons_zero, List.getElem_cons_succ]); go_simp; try (with_reducible rfl))
      try simp only [Act.put, List.getElem_toArray, List.getElem_cons_zero, List.getElem_cons_succ, List.setIfInBounds_toArray, List.set_cons_zero, List.set_cons_succ]
      refine wpAnyH_take (i := 11) (oi := _) (v := ?_) rfl (by kernel_rfl) (by kernel_rfl) (by kernel_rfl) (fun _ _ _ h => h) (Or.inl ⟨by rfl, ?_⟩) (by assumption) ?_
      rotate_left
      · (intro w0 hSw; (try dsimp only at hSw); (try simp only [List.getElem_toArray, List.getElem_cons_zero, List.getElem_cons_succ]); go_simp; try (with_reducible rfl))
      try simp only [Act.put, List.getElem_toArray, List.getElem_cons_zero, List.getElem_cons_succ, List.setIfInBounds_toArray, List.set_cons_zero, List.set_cons_succ]
      refine wpAnyH_take (i := 12) (oi := _) (v := ?_) rfl (by kernel_rfl) (by kernel_rfl) (by kernel_rfl) (fun _ _ _ h => h) (Or.inl ⟨by rfl, ?_⟩) (by assumption) ?_
      rotate_left
      · (intro w0 hSw; (try dsimp only at hSw); (try simp only [List.getElem_toArray, List.getElem_cons_zero, List.getElem_cons_succ]); go_simp; try (with_reducible rfl))
      try simp only [Act.put, List.getElem_toArray, List.getElem_cons_zero, List.getElem_cons_succ, List.setIfInBounds_toArray, List.set_cons_zero, List.set_cons_succ]
      refine wpAnyH_take (i := 13) (oi := _) (v := ?_) rfl (by kernel_rfl) (by kernel_rfl) (by kernel_rfl) (fun _ _ _ h => h) (Or.inl ⟨by rfl, ?_⟩) (by assumption) ?_
      rotate_left
      · (intro w0 hSw; (try dsimp only at hSw); (try simp only [List.getElem_toArray, List.getElem_cons_zero, List.getElem_cons_succ]); go_simp; try (with_reducible rfl))
      try simp only [Act.put, List.getElem_toArray, List.getElem_cons_zero, List.getElem_cons_succ, List.setIfInBounds_toArray, List.set_cons_zero, List.set_cons_succ]
      refine wpAnyH_take (i := 17) (oi := _) (v := ?_) rfl (by kernel_rfl) (by kernel_rfl) (by kernel_rfl) (fun _ _ _ h => h) (Or.inl ⟨by rfl, ?_⟩) (by assumption) ?_
      rotate_left
      · (intro w0 hSw; (try dsimp only at hSw); (try simp only [List.getElem_toArray, List.getElem_cons_zero, List.getElem_cons_succ]); go_simp; try (with_reducible rfl))
      try simp only [Act.put, List.getElem_toArray, List.getElem_cons_zero, List.getElem_cons_succ, List.setIfInBounds_toArray, List.set_cons_zero, List.set_cons_succ]
      refine wpAnyH_take (i := 18) (oi := _) (v := ?_) rfl (by kernel_rfl) (by kernel_rfl) (by kernel_rfl) (fun _ _ _ h => h) (Or.inl ⟨by rfl, ?_⟩) (by assumption) ?_
      rotate_left
      · (intro w0 hSw; (try dsimp only at hSw); (try simp only [List.getElem_toArray, List.getElem_cons_zero, List.getElem_cons_succ]); go_simp; try (with_reducible rfl))
      try simp only [Act.put, List.getElem_toArray, List.getElem_cons_zero, List.getElem_cons_succ, List.setIfInBounds_toArray, List.set_cons_zero, List.set_cons_succ]
      refine wpAnyH_take (i := 19) (oi := _) (v := ?_) rfl (by kernel_rfl) (by kernel_rfl) (by kernel_rfl) (fun _ _ _ h => h) (Or.inl ⟨by rfl, ?_⟩) (by assumption) ?_
      rotate_left
      · (intro w0 hSw; (try dsimp only at hSw); (try simp only [List.getElem_toArray, List.getElem_cons_zero, List.getElem_cons_succ]); go_simp; try (with_reducible rfl))
      try simp only [Act.put, List.getElem_toArray, List.getElem_cons_zero, List.getElem_cons_succ, List.setIfInBounds_toArray, List.set_cons_zero, List.set_cons_succ]
      refine wpAnyH_take (i := 20) (oi := _) (v := ?_) rfl (by kernel_rfl) (by kernel_rfl) (by kernel_rfl) (fun _ _ _ h => h) (Or.inl ⟨by rfl, ?_⟩) (by assumption) ?_
      rotate_left
      · (intro w0 hSw; (try dsimp only at hSw); (try simp only [List.getElem_toArray, List.getElem_cons_zero, List.getElem_cons_succ]); go_simp; try (with_reducible rfl))
      try simp only [Act.put, List.getElem_toArray, List.getElem_cons_zero, List.getElem_cons_succ, List.setIfInBounds_toArray, List.set_cons_zero, List.set_cons_succ]
      refine wpAnyH_take (i := 21) (oi := _) (v := ?_) rfl (by kernel_rfl) (by kernel_rfl) (by kernel_rfl) (fun _ _ _ h => h) (Or.inl ⟨by rfl, ?_⟩) (by assumption) ?_
      rotate_left
      · (intro w0 hSw; (try dsimp only at hSw); (try simp only [List.getElem_toArray, List.getElem_cons_zero, List.getElem_cons_succ]); go_simp; try (with_reducible rfl))
      try simp only [Act.put, List.getElem_toArray, List.getElem_cons_zero, List.getElem_cons_succ, List.setIfInBounds_toArray, List.set_cons_zero, List.set_cons_succ]
      refine wpAnyH_take (i := 22) (oi := _) (v := ?_) rfl (by kernel_rfl) (by kernel_rfl) (by kernel_rfl) (fun _ _ _ h => h) (Or.inl ⟨by rfl, ?_⟩) (by assumption) ?_
      rotate_left
      · (intro w0 hSw; (try dsimp only at hSw); (try simp only [List.getElem_toArray, List.getElem_cons_zero, List.getElem_cons_succ]); go_simp; try (with_reducible rfl))
      try simp only [Act.put, List.getElem_toArray, List.getElem_cons_zero, List.getElem_cons_succ, List.setIfInBounds_toArray, List.set_cons_zero, List.set_cons_succ]
      refine wpAnyH_ready (rs := [5]) (by kernel_rfl) (by simp) ?_
      refine AllReadyH.cons (o := _) rfl (fun K hK => ?_) AllReadyH.nil
      (try simp only [List.getElem_toArray, List.getElem_cons_zero, List.getElem_cons_succ])
      go_simp
      go_at_call 15
      refine (WH0.out _).mono ?_
      rintro e w2 ⟨rfl, hb2⟩
      go_wp2_with fail
      refine hK.out _ _ (by first | assumption | exact sees_drew _ | exact sees_call (by assumption) (by assumption)) (fun hHeld1 => ?_)
      clear hK K
      try simp only [Act.put, List.setIfInBounds_toArray, List.set_cons_zero, List.set_cons_succ]
      refine wpAnyH_take (i := 6) (oi := _) (v := ?_) rfl (by kernel_rfl) (by kernel_rfl) (by kernel_rfl) (fun _ _ _ h => h) (Or.inl ⟨by rfl, ?_⟩) (by assumption) ?_
      rotate_left
      · (intro w0 hSw; (try dsimp only at hSw); (try simp only [List.getElem_toArray, List.getElem_cons_zero, List.getElem_cons_succ]); go_simp; try (with_reducible rfl))
      try simp only [Act.put, List.getElem_toArray, List.getElem_cons_zero, List.getElem_cons_succ, List.setIfInBounds_toArray, List.set_cons_zero, List.set_cons_succ]
      refine wpAnyH_take (i := 7) (oi := _) (v := ?_) rfl (by kernel_rfl) (by kernel_rfl) (by kernel_rfl) (fun _ _ _ h => h) (Or.inl ⟨by rfl, ?_⟩) (by assumption) ?_
      rotate_left
      · (intro w0 hSw; (try dsimp only at hSw); (try simp only [List.getElem_toArray, List.getElem_cons_zero, List.getElem_cons_succ]); go_simp; try (with_reducible rfl))
      try simp only [Act.put, List.getElem_toArray, List.getElem_cons_zero, List.getElem_cons_succ, List.setIfInBounds_toArray, List.set_cons_zero, List.set_cons_succ]
      refine wpAnyH_ready (rs := [14]) (by kernel_rfl) (by simp) ?_
      refine AllReadyH.cons (o := _) rfl (fun K hK => ?_) AllReadyH.nil
      (try simp only [List.getElem_toArray, List.getElem_cons_zero, List.getElem_cons_succ])
      go_simp
      go_at_call 15
      refine (WH1.out _).mono ?_
      rintro e w2 ⟨rfl, hb2⟩
      go_wp2_with fail
      refine hK.out _ _ (by first | assumption | exact sees_drew _ | exact sees_call (by assumption) (by assumption)) (fun hHeld2 => ?_)
      clear hK K
      try simp only [Act.put, List.setIfInBounds_toArray, List.set_cons_zero, List.set_cons_succ]
      refine wpAnyH_take (i := 15) (oi := _) (v := ?_) rfl (by kernel_rfl) (by kernel_rfl) (by kernel_rfl) (fun _ _ _ h => h) (Or.inl ⟨by rfl, ?_⟩) (by assumption) ?_
      rotate_left
      · (intro w0 hSw; (try dsimp only at hSw); (try simp only [List.getElem_toArray, List.getElem_cons_zero, List.getElem_cons_succ]); go_simp; try (with_reducible rfl))
      try simp only [Act.put, List.getElem_toArray, List.getElem_cons_zero, List.getElem_cons_succ, List.setIfInBounds_toArray, List.set_cons_zero, List.set_cons_succ]
      refine wpAnyH_take (i := 16) (oi := _) (v := ?_) rfl (by kernel_rfl) (by kernel_rfl) (by kernel_rfl) (fun _ _ _ h => h) (Or.inl ⟨by rfl, ?_⟩) (by assumption) ?_
      rotate_left
      · (intro w0 hSw; (try dsimp only at hSw); (try simp only [List.getElem_toArray, List.getElem_cons_zero, List.getElem_cons_succ]); go_simp; try (with_reducible rfl))
      try simp only [Act.put, List.getElem_toArray, List.getElem_cons_zero, List.getElem_cons_succ, List.setIfInBounds_toArray, List.set_cons_zero, List.set_cons_succ]
      refine wpAnyH_ready (rs := [23]) (by kernel_rfl) (by simp) ?_
      refine AllReadyH.cons (o := _) rfl (fun K hK => ?_) AllReadyH.nil
      (try simp only [List.getElem_toArray, List.getElem_cons_zero, List.getElem_cons_succ])
      go_simp
      go_at_call 15
      refine (WH2.out _).mono ?_
      rintro e w2 ⟨rfl, hb2⟩
      go_wp2_with fail
      refine hK.out _ _ (by first | assumption | exact sees_drew _ | exact sees_call (by assumption) (by assumption)) (fun hHeld3 => ?_)
      clear hK K
      try simp only [Act.put, List.setIfInBounds_toArray, List.set_cons_zero, List.set_cons_succ]
      refine wpAnyH_take (i := 24) (oi := _) (v := ?_) rfl (by kernel_rfl) (by kernel_rfl) (by kernel_rfl) (fun _ _ _ h => h) (Or.inl ⟨by rfl, ?_⟩) (by assumption) ?_
      rotate_left
      · (intro w0 hSw; (try dsimp only at hSw); (try simp only [List.getElem_toArray, List.getElem_cons_zero, List.getElem_cons_succ]); go_simp; try (with_reducible rfl))
      try simp only [Act.put, List.getElem_toArray, List.getElem_cons_zero, List.getElem_cons_succ, List.setIfInBounds_toArray, List.set_cons_zero, List.set_cons_succ]
      refine wpAnyH_take (i := 25) (oi := _) (v := ?_) rfl (by kernel_rfl) (by kernel_rfl) (by kernel_rfl) (fun _ _ _ h => h) (Or.inl ⟨by rfl, ?_⟩) (by assumption) ?_
      rotate_left
      · (intro w0 hSw; (try dsimp only at hSw); (try simp only [List.getElem_toArray, List.getElem_cons_zero, List.getElem_cons_succ]); go_simp; try (with_reducible rfl))
      try simp only [Act.put, List.getElem_toArray, List.getElem_cons_zero, List.getElem_cons_succ, List.setIfInBounds_toArray, List.set_cons_zero, List.set_cons_succ]
      refine wpAnyH_take (i := 26) (oi := _) (v := ?_) rfl (by kernel_rfl) (by kernel_rfl) (by kernel_rfl) (fun _ _ _ h => h) (Or.inl ⟨by rfl, ?_⟩) (by assumption) ?_
      rotate_left
      · (intro w0 hSw; (try dsimp only at hSw); (try simp only [List.getElem_toArray, List.getElem_cons_zero, List.getElem_cons_succ]); go_simp; try (with_reducible rfl))
      try simp only [Act.put, List.getElem_toArray, List.getElem_cons_zero, List.getElem_cons_succ, List.setIfInBounds_toArray, List.set_cons_zero, List.set_cons_succ]
      refine wpAnyH_done (by kernel_rfl) ?_ _
      refine NoPanic.normal ?_
      )
      have HB2 : Hid (Below wc.heap.size wc w2) := HB.out.trans (Below.mono (And.left (by assumption)) HB.out.size)
      clear HB WH0 WH1 WH2 hcell c1 c2
      go_wp2
      go_roundw
      case measure => simp [intOf]; omega
      case rel => exact ⟨k + 1, by omega, by simp, by rw [HNX.out, ← List.append_assoc, HTT.out]; exact congrArg (fun x => Value.string (bs x)) HZ.out, HB2.out⟩
    · have hge : ¬ ((k : Int) < (G.ands.length : Int)) := by omega
      have HEN : Hid (t0 ++ cat (fA G first) k = t0 ++ cat (fA G first) (G.ands.length)) := by show _ = _; rw [show k = G.ands.length by omega]
      have hcell := (HB.out.cell (p := ⟨gx, 2, none⟩) hgx).trans q0
      rw [HEN.out]
      go_wp2
      exact HK.out _ _ _ _ _ _ _ _ _ _ _ _ _ _ _ _ _ _ _ _ _ _ _ _ _ _ _ _ _ _ _ _ _ _ _ HB.out

end Go.Proofs.YtdiahnommkhkiaaDoor
