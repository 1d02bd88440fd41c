import Derived.Test.YtmifbcpinhpnnaaDoorArG
namespace Go.Proofs.YtmifbcpinhpnnaaDoor
open Go.RowKit

def pL (l : Int) (G : GrD) (ni i : Nat) : List UInt8 := match G.lats[i]? with | some d => lineT (latN l (2 * (1 + (ni : Int) + (i : Int))) d) | none => []
def pA (gT : Int → AndD → List UInt8) (G : GrD) (first i : Nat) : List UInt8 := match G.ands[i]? with | some d => gT (2 * ((first : Int) + (i : Int))) d | none => []
theorem fI_line (i : Nat) : fI i = lineT [2 * (1 + (i : Int))] := rfl
theorem fO_line {G : GrD} {i : Nat} {x : Int} (h : G.outs[i]? = some x) : fO G i = lineT [x] := by unfold fO; rw [h]; rfl
theorem pL_line {l : Int} {G : GrD} {ni i : Nat} {d : LatD} (h : G.lats[i]? = some d) : pL l G ni i = lineT (latN l (2 * (1 + (ni : Int) + (i : Int))) d) := by unfold pL; rw [h]
theorem pA_line {gT : Int → AndD → List UInt8} {G : GrD} {first i : Nat} {d : AndD} (h : G.ands[i]? = some d) : pA gT G first i = gT (2 * ((first : Int) + (i : Int))) d := by unfold pA; rw [h]
theorem decI_one : decI 1 = [49] := by show decTxt 1 = _; rw [decTxt_small 1 (by decide)]; rfl
theorem pL_text (G : GrD) (ni i : Nat) : pL 0 G ni i = fL G ni i := by
  unfold pL fL
  cases G.lats[i]? with
  | none => rfl
  | some d =>
    obtain ⟨nx, ini⟩ := d
    cases ini
    · simp [lineT, latN, joinT, firstT]
    · simp [lineT, latN, joinT, firstT, decI_one]
theorem pA_text (G : GrD) (first i : Nat) : pA (fun own d => lineT [own, d.x, d.y]) G first i = fA G first i := by
  unfold pA fA
  cases G.ands[i]? with
  | none => rfl
  | some d => simp [lineT, joinT]
/-- a call that puts one number in a line -/
theorem one_any (B : Nat) (w : World) (v : Value) (t : List UInt8) (h : Txt B w v t) (hB : B ≤ w.heap.size) (hG : Tryd.prog.globals.size ≤ B) (hl : t.length ≤ 50000000) (ht : Tens w) (x : Int) (hx : 0 ≤ x ∧ x < 4294967296) :
    Calls Tryd.prog 26 #[v, .slice (some ⟨w.heap.size, 0, none⟩) 1 1] (w.alloc (.cells #[.int .i64 x] 3)) fun e w' => ∃ v', e = .returned v' ∧ Txt B w' v' (t ++ lineT [x]) ∧ Step w v w' v' := by
  have hb : Below w.heap.size w (w.alloc (.cells #[.int .i64 x] 3)) := (Below.refl _ _).alloc (Nat.le_refl _) _
  have hs : (w.alloc (.cells #[.int .i64 x] 3)).heap.size = w.heap.size + 1 := by simp
  have AL := appendLine_any B (w.alloc (.cells #[.int .i64 x] 3)) v t (h.to hb) (by omega) hG hl (ht.to hb (by omega)) [x] w.heap.size 0 1 (by omega) (fun e => by have := (OwnM.lt h _ e).2; omega) (fun j z hz => by
      have hj := (List.getElem?_eq_some_iff.1 hz).1
      have e0 : j = 0 := by simp at hj; omega
      subst e0
      have e1 : x = z := by simpa using hz
      subst e1
      exact cell_new rfl) (by intro z hz; simp only [List.mem_cons, List.not_mem_nil, or_false] at hz; omega) (by simp)
  refine AL.mono ?_
  rintro e w9 ⟨v9, he, hT9, hS9⟩
  exact ⟨v9, he, hT9, (Step.same hb).trans hS9⟩

set_option maxRecDepth 100000 in
set_option maxHeartbeats 8000000 in
theorem wrIns (wc : World) (B : Nat) (v0 : Value) (t0 : List UInt8) (HT0 : Hid (Txt B wc v0 t0)) (hB : B ≤ wc.heap.size) (hG : Tryd.prog.globals.size ≤ B) (ht0 : t0.length ≤ 20000000) (HTE : Hid (Tens wc)) (ni : Nat) (hni : ni ≤ 60000) (HFL : Hid (∀ i, i < ni → (fI i).length ≤ 60)) (K' : Act → World → Prop) (Q0 : Exit → Act → World → Prop) (x0 x1 x2 x3 x4 x5 x7 x8 x9 x10 x11 x12 x13 x14 x15 x16 x17 x18 x19 x20 x21 x22 x23 x24 x25 x26 x27 x30 x31 x32 x33 x34 x35 x36 x37 x38 x39 x40 x41 x42 x43 x44 x45 x46 x47 x48 x49 x50 x51 x52 x53 x54 x55 x56 x57 x58 x59 x60 x61 x62 x63 x64 x65 x66 x67 x68 x69 x70 x71 x72 x73 x74 x75 x76 x77 x78 x79 x80 x81 x82 x83 x84 x85 x86 x87 x88 x89 x90 : Value)
    (HK : Hid (∀ (w' : World) (s6 s7 s29 s30 s31 s32 s33 s34 s35 s36 s37 s38 : Value), Txt B w' s6 (t0 ++ cat fI ni) ∧ Step wc v0 w' s6 → K' ⟨#[x0, x1, x2, x3, x4, x5, s6, s7, x8, x9, x10, x11, x12, x13, x14, x15, x16, x17, x18, x19, x20, x21, x22, x23, x24, x25, x26, x27, .int .i64 (ni : Int), s29, s30, s31, s32, s33, s34, s35, s36, s37, s38, x39, x40, x41, x42, x43, x44, x45, x46, x47, x48, x49, x50, x51, x52, x53, x54, x55, x56, x57, x58, x59, x60, x61, x62, x63, x64, x65, x66, x67, x68, x69, x70, x71, x72, x73, x74, x75, x76, x77, x78, x79, x80, x81, x82, x83, x84, x85, x86, x87, x88, x89, x90], []⟩ w')) :
    Code.wp Tryd.prog ((Tryd.f15.body.bind (blockAt 0)).getD .skip) (Exit.then K' Q0) ⟨#[x0, x1, x2, x3, x4, x5, v0, x7, x8, x9, x10, x11, x12, x13, x14, x15, x16, x17, x18, x19, x20, x21, x22, x23, x24, x25, x26, x27, .int .i64 (ni : Int), .int .i64 0, x30, x31, x32, x33, x34, x35, x36, x37, x38, x39, x40, x41, x42, x43, x44, x45, x46, x47, x48, x49, x50, x51, x52, x53, x54, x55, x56, x57, x58, x59, x60, x61, x62, x63, x64, x65, x66, x67, x68, x69, x70, x71, x72, x73, x74, x75, x76, x77, x78, x79, x80, x81, x82, x83, x84, x85, x86, x87, x88, x89, x90], []⟩ wc := by
  conv => arg 2; whnf
  go_wp2_with fail
  go_loopw [6, 29] (fun b' i' w' => ∃ (k : Nat), k ≤ ni ∧ i' = .int .i64 k ∧ Hid (Txt B w' b' (t0 ++ cat (fI) k)) ∧ Hid (Step wc v0 w' b')) (fun _ i' _ => ni - (intOf i').toNat)
  case atStart => exact ⟨0, Nat.zero_le _, rfl, by show Txt _ _ _ _; rw [cat_zero, List.append_nil]; exact HT0.out, Step.refl _ _⟩
  case round =>
    obtain ⟨k, hk, rfl, HT, HSt⟩ := hrel
    have hsz := HSt.out.1.size
    by_cases hlt : k < ni
    · have hltI : (k : Int) < (ni : Int) := by omega
      have e3 : IntKind.i64.wrap ((k : Int) + 1) = (k : Int) + 1 := wrapI _ (by omega) (by omega)
      have HNX := hidden (cat_next (fI) k)
      have hlen : (t0 ++ cat (fI) k).length ≤ 50000000 := by
        rw [List.length_append]
        have := cat_len (f := fI) (m := 60) k (fun i hi => HFL.out i (by omega))
        omega
      have hgu := HT.out.ge
      have HTEr : Hid (Tens wr) := HTE.out.step HSt.out hB HT0.out.ge hG
      have hu : ∀ x, x < wc.heap.size → v0.ownBlock ≠ some x → u6.ownBlock ≠ some x := fun x hx hne e => by
        rcases HSt.out.2 x e with h1 | h1
        · exact hne h1
        · omega
      have gfar : ∀ x, x < B → v0.ownBlock ≠ some x := fun x hx e => by have := HT0.out.ge x e; omega
      have eA : IntKind.i64.wrap ((1 : Int) + (k : Int)) = (1 : Int) + (k : Int) := wrapI _ (by omega) (by omega)
      have eB : IntKind.i64.wrap (2 * ((1 : Int) + (k : Int))) = 2 * ((1 : Int) + (k : Int)) := wrapI _ (by omega) (by omega)
      have AL := hidden (one_any B wr u6 _ HT.out (by omega) hG hlen HTEr.out (2 * (1 + (k : Int))) (by omega))
      go_wp2_with fail
      go_at_call 26
      refine AL.out.mono ?_
      rintro e w5 ⟨v5, rfl, hT5, hS5⟩
      have HT5 : Hid (Txt B w5 v5 (t0 ++ cat (fI) (k + 1))) := by
        show Txt _ _ _ _
        rw [HNX.out, ← List.append_assoc, fI_line]; exact hT5
      have HS5 : Hid (Step wc v0 w5 v5) := HSt.out.trans hS5
      clear hT5 hS5 HT HSt HNX hgu HTEr AL
      go_wp2
      go_roundw
      case measure => simp [intOf]; omega
      case rel => exact ⟨k + 1, by omega, by simp, HT5.out, HS5.out⟩
    · have hge : ¬ ((k : Int) < (ni : Int)) := by omega
      have HEN : Hid (Txt B wr u6 (t0 ++ cat (fI) (ni))) := by
        have := HT.out
        rw [show k = ni by omega] at this
        exact this
      clear HT
      go_wp2
      exact HK.out _ _ _ _ _ _ _ _ _ _ _ _ _ ⟨HEN.out, HSt.out⟩

set_option maxRecDepth 100000 in
set_option maxHeartbeats 8000000 in
theorem wrOuts (wc : World) (B : Nat) (v0 : Value) (t0 : List UInt8) (HT0 : Hid (Txt B wc v0 t0)) (hB : B ≤ wc.heap.size) (hG : Tryd.prog.globals.size ≤ B) (ht0 : t0.length ≤ 20000000) (HTE : Hid (Tens wc)) (G : GrD) (D n : Nat) (a : Option Addr) (c : Nat) (HR : Hid (RowAt D wc a 1 (G.outs.map intC))) (hD : D ≤ B) (hn : n ≤ 60000) (hin : ∀ z, z ∈ G.outs → 0 ≤ z ∧ z < 2 * (n : Int)) (hlo : G.outs.length ≤ 60000) (HFL : Hid (∀ i, i < G.outs.length → (fO G i).length ≤ 60)) (K' : Act → World → Prop) (Q0 : Exit → Act → World → Prop) (x0 x1 x2 x3 x4 x5 x7 x8 x9 x10 x11 x12 x13 x14 x15 x16 x17 x18 x19 x20 x21 x22 x23 x24 x25 x26 x27 x28 x29 x30 x31 x32 x33 x34 x35 x36 x37 x38 x39 x40 x41 x42 x43 x44 x45 x46 x47 x48 x49 x50 x51 x52 x53 x54 x55 x56 x57 x58 x59 x60 x61 x65 x66 x67 x68 x69 x70 x71 x72 x73 x74 x75 x76 x77 x78 x79 x80 x81 x82 x83 x84 x85 x86 x87 x88 x89 x90 : Value)
    (HK : Hid (∀ (w' : World) (s6 s10 s64 s65 s66 s67 s68 s69 s70 s71 s72 : Value), Txt B w' s6 (t0 ++ cat (fO G) G.outs.length) ∧ Step wc v0 w' s6 → K' ⟨#[x0, x1, x2, x3, x4, x5, s6, x7, x8, x9, s10, x11, x12, x13, x14, x15, x16, x17, x18, x19, x20, x21, x22, x23, x24, x25, x26, x27, x28, x29, x30, x31, x32, x33, x34, x35, x36, x37, x38, x39, x40, x41, x42, x43, x44, x45, x46, x47, x48, x49, x50, x51, x52, x53, x54, x55, x56, x57, x58, x59, x60, x61, .slice a G.outs.length c, .int .i64 (G.outs.length : Int), s64, s65, s66, s67, s68, s69, s70, s71, s72, x73, x74, x75, x76, x77, x78, x79, x80, x81, x82, x83, x84, x85, x86, x87, x88, x89, x90], []⟩ w')) :
    Code.wp Tryd.prog ((Tryd.f15.body.bind (blockAt 4)).getD .skip) (Exit.then K' Q0) ⟨#[x0, x1, x2, x3, x4, x5, v0, x7, x8, x9, x10, x11, x12, x13, x14, x15, x16, x17, x18, x19, x20, x21, x22, x23, x24, x25, x26, x27, x28, x29, x30, x31, x32, x33, x34, x35, x36, x37, x38, x39, x40, x41, x42, x43, x44, x45, x46, x47, x48, x49, x50, x51, x52, x53, x54, x55, x56, x57, x58, x59, x60, x61, .slice a G.outs.length c, .int .i64 (G.outs.length : Int), .int .i64 0, x65, x66, x67, x68, x69, x70, x71, x72, x73, x74, x75, x76, x77, x78, x79, x80, x81, x82, x83, x84, x85, x86, x87, x88, x89, x90], []⟩ wc := by
  conv => arg 2; whnf
  go_wp2_with fail
  go_loopw [6, 64] (fun b' i' w' => ∃ (k : Nat), k ≤ G.outs.length ∧ i' = .int .i64 k ∧ Hid (Txt B w' b' (t0 ++ cat (fO G) k)) ∧ Hid (Step wc v0 w' b')) (fun _ i' _ => G.outs.length - (intOf i').toNat)
  case atStart => exact ⟨0, Nat.zero_le _, rfl, by show Txt _ _ _ _; rw [cat_zero, List.append_nil]; exact HT0.out, Step.refl _ _⟩
  case round =>
    obtain ⟨k, hk, rfl, HT, HSt⟩ := hrel
    have hsz := HSt.out.1.size
    by_cases hlt : k < G.outs.length
    · have hltI : (k : Int) < (G.outs.length : Int) := by omega
      have e3 : IntKind.i64.wrap ((k : Int) + 1) = (k : Int) + 1 := wrapI _ (by omega) (by omega)
      have HNX := hidden (cat_next (fO G) k)
      have hlen : (t0 ++ cat (fO G) k).length ≤ 50000000 := by
        rw [List.length_append]
        have := cat_len (f := fO G) (m := 60) k (fun i hi => HFL.out i (by omega))
        omega
      have hgu := HT.out.ge
      have HTEr : Hid (Tens wr) := HTE.out.step HSt.out hB HT0.out.ge hG
      have hu : ∀ x, x < wc.heap.size → v0.ownBlock ≠ some x → u6.ownBlock ≠ some x := fun x hx hne e => by
        rcases HSt.out.2 x e with h1 | h1
        · exact hne h1
        · omega
      have gfar : ∀ x, x < B → v0.ownBlock ≠ some x := fun x hx e => by have := HT0.out.ge x e; omega
      obtain ⟨x, hx⟩ : ∃ x, G.outs[k]? = some x := getElem_lt hlt
      obtain ⟨rb, ro, ea, hrb, hrc⟩ := HR.out.intR hx
      subst ea
      have c1 := (HSt.out.cell (p := ⟨rb, ro + k, none⟩) (by show rb < _; omega) (gfar rb (by omega))).trans hrc
      have hxi := hin x (List.mem_of_getElem? hx)
      have HFK := hidden (fO_line hx)
      have AL := hidden (one_any B wr u6 _ HT.out (by omega) hG hlen HTEr.out x (by omega))
      clear hrc hx hxi
      go_wp2_with fail
      go_at_call 26
      refine AL.out.mono ?_
      rintro e w5 ⟨v5, rfl, hT5, hS5⟩
      have HT5 : Hid (Txt B w5 v5 (t0 ++ cat (fO G) (k + 1))) := by
        show Txt _ _ _ _
        rw [HNX.out, ← List.append_assoc, HFK.out]; exact hT5
      have HS5 : Hid (Step wc v0 w5 v5) := HSt.out.trans hS5
      clear hT5 hS5 HT HSt HNX hgu HTEr AL HFK c1
      go_wp2
      go_roundw
      case measure => simp [intOf]; omega
      case rel => exact ⟨k + 1, by omega, by simp, HT5.out, HS5.out⟩
    · have hge : ¬ ((k : Int) < (G.outs.length : Int)) := by omega
      have HEN : Hid (Txt B wr u6 (t0 ++ cat (fO G) (G.outs.length))) := by
        have := HT.out
        rw [show k = G.outs.length by omega] at this
        exact this
      clear HT
      go_wp2
      exact HK.out _ _ _ _ _ _ _ _ _ _ _ _ ⟨HEN.out, HSt.out⟩

set_option maxRecDepth 100000 in
set_option maxHeartbeats 8000000 in
theorem wrLats (wc : World) (B : Nat) (v0 : Value) (t0 : List UInt8) (HT0 : Hid (Txt B wc v0 t0)) (hB : B ≤ wc.heap.size) (hG : Tryd.prog.globals.size ≤ B) (ht0 : t0.length ≤ 20000000) (HTE : Hid (Tens wc)) (l : Int) (hl : l = 0 ∨ l = 1) (G : GrD) (D n ni gb hb : Nat) (a : Option Addr) (c : Nat) (q1 : wc.cell? ⟨gb, 1, none⟩ = some (.slice a G.lats.length c)) (hgb : gb < B) (q2 : wc.cell? ⟨hb, 1, none⟩ = some (.int .i64 (ni : Int))) (hhb : hb < wc.heap.size) (hvh : v0.ownBlock ≠ some hb) (hni : ni ≤ 60000) (HR : Hid (RowAt D wc a 2 (G.lats.map LatD.cells))) (hD : D ≤ B) (hn : n ≤ 60000) (hin : ∀ z, z ∈ G.lats → 0 ≤ z.next ∧ z.next < 2 * (n : Int)) (hlo : G.lats.length ≤ 60000) (HFL : Hid (∀ i, i < G.lats.length → (pL l G ni i).length ≤ 60)) (K' : Act → World → Prop) (Q0 : Exit → Act → World → Prop) (x2 x3 x4 x7 x8 x9 x10 x11 x12 x13 x14 x15 x16 x17 x18 x19 x20 x21 x22 x23 x24 x25 x26 x27 x28 x29 x30 x31 x32 x33 x34 x35 x36 x37 x38 x39 x40 x41 x42 x45 x46 x47 x48 x49 x50 x51 x52 x53 x54 x55 x56 x57 x58 x59 x60 x61 x62 x63 x64 x65 x66 x67 x68 x69 x70 x71 x72 x73 x74 x75 x76 x77 x78 x79 x80 x81 x82 x83 x84 x85 x86 x87 x88 x89 x90 : Value)
    (HK : Hid (∀ (w' : World) (s6 s8 s44 s45 s46 s47 s48 s49 s50 s51 s52 s53 s54 s55 s56 s57 s58 : Value), Txt B w' s6 (t0 ++ cat (pL l G ni) G.lats.length) ∧ Step wc v0 w' s6 → K' ⟨#[.pointer (some ⟨gb, 0, none⟩), .int .i64 l, x2, x3, x4, .pointer (some ⟨hb, 0, none⟩), s6, x7, s8, x9, x10, x11, x12, x13, x14, x15, x16, x17, x18, x19, x20, x21, x22, x23, x24, x25, x26, x27, x28, x29, x30, x31, x32, x33, x34, x35, x36, x37, x38, x39, x40, x41, x42, .int .i64 (G.lats.length : Int), s44, s45, s46, s47, s48, s49, s50, s51, s52, s53, s54, s55, s56, s57, s58, x59, x60, x61, x62, x63, x64, x65, x66, x67, x68, x69, x70, x71, x72, x73, x74, x75, x76, x77, x78, x79, x80, x81, x82, x83, x84, x85, x86, x87, x88, x89, x90], []⟩ w')) :
    Code.wp Tryd.prog ((Tryd.f15.body.bind (blockAt 2)).getD .skip) (Exit.then K' Q0) ⟨#[.pointer (some ⟨gb, 0, none⟩), .int .i64 l, x2, x3, x4, .pointer (some ⟨hb, 0, none⟩), v0, x7, x8, x9, x10, x11, x12, x13, x14, x15, x16, x17, x18, x19, x20, x21, x22, x23, x24, x25, x26, x27, x28, x29, x30, x31, x32, x33, x34, x35, x36, x37, x38, x39, x40, x41, x42, .int .i64 (G.lats.length : Int), .int .i64 0, x45, x46, x47, x48, x49, x50, x51, x52, x53, x54, x55, x56, x57, x58, x59, x60, x61, x62, x63, x64, x65, x66, x67, x68, x69, x70, x71, x72, x73, x74, x75, x76, x77, x78, x79, x80, x81, x82, x83, x84, x85, x86, x87, x88, x89, x90], []⟩ wc := by
  conv => arg 2; whnf
  go_wp2_with fail
  go_loopw [6, 44] (fun b' i' w' => ∃ (k : Nat), k ≤ G.lats.length ∧ i' = .int .i64 k ∧ Hid (Txt B w' b' (t0 ++ cat (pL l G ni) k)) ∧ Hid (Step wc v0 w' b')) (fun _ i' _ => G.lats.length - (intOf i').toNat)
  case atStart => exact ⟨0, Nat.zero_le _, rfl, by show Txt _ _ _ _; rw [cat_zero, List.append_nil]; exact HT0.out, Step.refl _ _⟩
  case round =>
    obtain ⟨k, hk, rfl, HT, HSt⟩ := hrel
    have hsz := HSt.out.1.size
    by_cases hlt : k < G.lats.length
    · have hltI : (k : Int) < (G.lats.length : Int) := by omega
      have e3 : IntKind.i64.wrap ((k : Int) + 1) = (k : Int) + 1 := wrapI _ (by omega) (by omega)
      have HNX := hidden (cat_next (pL l G ni) k)
      have hlen : (t0 ++ cat (pL l G ni) k).length ≤ 50000000 := by
        rw [List.length_append]
        have := cat_len (f := pL l G ni) (m := 60) k (fun i hi => HFL.out i (by omega))
        omega
      have hgu := HT.out.ge
      have HTEr : Hid (Tens wr) := HTE.out.step HSt.out hB HT0.out.ge hG
      have hu : ∀ x, x < wc.heap.size → v0.ownBlock ≠ some x → u6.ownBlock ≠ some x := fun x hx hne e => by
        rcases HSt.out.2 x e with h1 | h1
        · exact hne h1
        · omega
      have gfar : ∀ x, x < B → v0.ownBlock ≠ some x := fun x hx e => by have := HT0.out.ge x e; omega
      obtain ⟨d, hd⟩ : ∃ d, G.lats[k]? = some d := getElem_lt hlt
      obtain ⟨rb, ro, ea, hrb, hrc⟩ := HR.out.el hd
      have hcell := (HSt.out.cell (p := ⟨gb, 1, none⟩) (by show gb < _; omega) (gfar gb hgb)).trans q1
      rw [ea] at hcell
      have c1 : wr.cell? ⟨rb, ro + k * 2, none⟩ = some (.int .i64 d.next) := (HSt.out.cell (p := ⟨rb, ro + k * 2, none⟩) (by show rb < _; omega) (gfar rb (by omega))).trans (hrc 0 _ rfl)
      have c2 : wr.cell? ⟨rb, ro + k * 2 + 1, none⟩ = some (.bool d.init) := (HSt.out.cell (p := ⟨rb, ro + k * 2 + 1, none⟩) (by show rb < _; omega) (gfar rb (by omega))).trans (hrc 1 _ rfl)
      have hxi := hin d (List.mem_of_getElem? hd)
      have HFK := hidden (pL_line (l := l) (ni := ni) hd)
      have LT : Hid (∀ w', w' = wr.drew → Calls Tryd.prog 28 #[.pointer (some ⟨hb, 0, none⟩), .int .i64 (k : Int)] w' fun e w'' => e = .returned (.int .i64 (2 * (1 + (ni : Int) + (k : Int)))) ∧ w'' = w') := fun w' hw' => by
        rw [hw']
        exact latch_any wr.drew hb ni k ((HSt.out.cell (p := ⟨hb, 1, none⟩) hhb hvh).trans q2) (by omega) (by omega)
      have AL : Hid (∀ w', w' = wr.drew → Calls Tryd.prog 27 #[u6, .int .i64 l, .int .i64 (2 * (1 + (ni : Int) + (k : Int))), .pointer (some ⟨rb, ro + k * 2, none⟩)] w' fun e w'' => ∃ v', e = .returned v' ∧ Txt B w'' v' (t0 ++ cat (pL l G ni) k ++ lineT (latN l (2 * (1 + (ni : Int) + (k : Int))) d)) ∧ Step w' u6 w'' v') := fun w' hw' => by
        rw [hw']
        exact appendLatch_any B wr.drew u6 _ (HT.out.to (Below.drew (Below.refl _ _))) (by show B ≤ wr.heap.size; omega) hG hlen (HTEr.out.to (Below.drew (Below.refl wr.heap.size wr)) (by omega)) l hl _ (by omega) d (by omega) rb (ro + k * 2) (by show rb < wr.heap.size; omega) c1 c2
      have hgbw : gb < wr.heap.size := by omega
      have hugb : u6.ownBlock ≠ some gb := hu gb (by omega) (gfar gb hgb)
      have hkI2 : (k : Int) < (G.lats.length : Int) := hltI
      clear hrc ea hd hxi
      go_upto_region 13 with fail
      (
      refine wp_region_noPanic ?_
      refine wp_region_held_drew (S := (fun w' => w'.cell? ⟨gb, 1, none⟩ = some (.slice (some ⟨rb, ro, none⟩) G.lats.length c))) (by kernel_rfl) (by first | assumption | exact hcell | exact (Step.cell hS5 (p := ⟨gb, 1, none⟩) hgbw hugb).trans hcell) (fun hHeld => ?_)
      refine wpAnyH_take (i := 0) (oi := _) (v := ?_) rfl (by kernel_rfl) (by kernel_rfl) (by kernel_rfl) (fun _ _ _ h => h) (Or.inl ⟨by rfl, ?_⟩) (by assumption) ?_
      rotate_left
      · (intro w0 hSw; (try dsimp only at hSw); (try simp only [List.getElem_toArray, List.getElem_cons_zero]); go_simp; try (with_reducible rfl))
      try simp only [Act.put, List.getElem_toArray, List.getElem_cons_zero, List.setIfInBounds_toArray, List.set_cons_zero, List.set_cons_succ]
      refine wpAnyH_take (i := 1) (oi := _) (v := ?_) rfl (by kernel_rfl) (by kernel_rfl) (by kernel_rfl) (fun _ _ _ h => h) (Or.inl ⟨by rfl, ?_⟩) (by assumption) ?_
      rotate_left
      · (intro w0 hSw; (try dsimp only at hSw); (try simp only [List.getElem_toArray, List.getElem_cons_zero, List.getElem_cons_succ]); go_simp; try (with_reducible rfl))
      try simp only [Act.put, List.getElem_toArray, List.getElem_cons_zero, List.getElem_cons_succ, List.setIfInBounds_toArray, List.set_cons_zero, List.set_cons_succ]
      refine wpAnyH_take (i := 2) (oi := _) (v := ?_) rfl (by kernel_rfl) (by kernel_rfl) (by kernel_rfl) (fun _ _ _ h => h) (Or.inl ⟨by rfl, ?_⟩) (by assumption) ?_
      rotate_left
      · (intro w0 hSw; (try dsimp only at hSw); (try simp only [List.getElem_toArray, List.getElem_cons_zero, List.getElem_cons_succ]); go_simp; try (with_reducible rfl))
      try simp only [Act.put, List.getElem_toArray, List.getElem_cons_zero, List.getElem_cons_succ, List.setIfInBounds_toArray, List.set_cons_zero, List.set_cons_succ]
      refine wpAnyH_take (i := 4) (oi := _) (v := ?_) rfl (by kernel_rfl) (by kernel_rfl) (by kernel_rfl) (fun _ _ _ h => h) (Or.inl ⟨by rfl, ?_⟩) (by assumption) ?_
      rotate_left
      · (intro w0 hSw; (try dsimp only at hSw); (try simp only [List.getElem_toArray, List.getElem_cons_zero, List.getElem_cons_succ]); go_simp; try (with_reducible rfl))
      try simp only [Act.put, List.getElem_toArray, List.getElem_cons_zero, List.getElem_cons_succ, List.setIfInBounds_toArray, List.set_cons_zero, List.set_cons_succ]
      refine wpAnyH_take (i := 5) (oi := _) (v := ?_) rfl (by kernel_rfl) (by kernel_rfl) (by kernel_rfl) (fun _ _ _ h => h) (Or.inl ⟨by rfl, ?_⟩) (by assumption) ?_
      rotate_left
      · (intro w0 hSw; (try dsimp only at hSw); (try simp only [List.getElem_toArray, List.getElem_cons_zero, List.getElem_cons_succ]); go_simp; try (with_reducible rfl))
      try simp only [Act.put, List.getElem_toArray, List.getElem_cons_zero, List.getElem_cons_succ, List.setIfInBounds_toArray, List.set_cons_zero, List.set_cons_succ]
      refine wpAnyH_take (i := 6) (oi := _) (v := ?_) rfl (by kernel_rfl) (by kernel_rfl) (by kernel_rfl) (fun _ _ _ h => h) (Or.inl ⟨by rfl, ?_⟩) (by assumption) ?_
      rotate_left
      · (intro w0 hSw; (try dsimp only at hSw); (try simp only [List.getElem_toArray, List.getElem_cons_zero, List.getElem_cons_succ]); go_simp; try (with_reducible rfl))
      try simp only [Act.put, List.getElem_toArray, List.getElem_cons_zero, List.getElem_cons_succ, List.setIfInBounds_toArray, List.set_cons_zero, List.set_cons_succ]
      refine wpAnyH_take (i := 7) (oi := _) (v := ?_) rfl (by kernel_rfl) (by kernel_rfl) (by kernel_rfl) (fun _ _ _ h => h) (Or.inl ⟨by rfl, ?_⟩) (by assumption) ?_
      rotate_left
      · (intro w0 hSw; (try dsimp only at hSw); (try simp only [List.getElem_toArray, List.getElem_cons_zero, List.getElem_cons_succ]); go_simp; try (with_reducible rfl))
      try simp only [Act.put, List.getElem_toArray, List.getElem_cons_zero, List.getElem_cons_succ, List.setIfInBounds_toArray, List.set_cons_zero, List.set_cons_succ]
      refine wpAnyH_take (i := 8) (oi := _) (v := ?_) rfl (by kernel_rfl) (by kernel_rfl) (by kernel_rfl) (fun _ _ _ h => h) (Or.inl ⟨by rfl, ?_⟩) (by assumption) ?_
      rotate_left
      · (intro w0 hSw; (try dsimp only at hSw); (try simp only [List.getElem_toArray, List.getElem_cons_zero, List.getElem_cons_succ]); go_simp; try (with_reducible rfl))
      try simp only [Act.put, List.getElem_toArray, List.getElem_cons_zero, List.getElem_cons_succ, List.setIfInBounds_toArray, List.set_cons_zero, List.set_cons_succ]
      refine wpAnyH_take (i := 9) (oi := _) (v := ?_) rfl (by kernel_rfl) (by kernel_rfl) (by kernel_rfl) (fun _ _ _ h => h) (Or.inl ⟨by rfl, ?_⟩) (by assumption) ?_
      rotate_left
      · (intro w0 hSw; (try dsimp only at hSw); (try simp only [List.getElem_toArray, List.getElem_cons_zero, List.getElem_cons_succ]); go_simp; try (with_reducible rfl))
      try simp only [Act.put, List.getElem_toArray, List.getElem_cons_zero, List.getElem_cons_succ, List.setIfInBounds_toArray, List.set_cons_zero, List.set_cons_succ]
      refine wpAnyH_ready (rs := [3]) (by kernel_rfl) (by simp) ?_
      refine AllReadyH.cons (o := _) rfl (fun K hK => ?_) AllReadyH.nil
      (try simp only [List.getElem_toArray, List.getElem_cons_zero, List.getElem_cons_succ])
      go_simp
      go_at_call 28
      refine (LT.out _ rfl).mono ?_
      rintro e w2 ⟨rfl, hw2⟩
      subst hw2
      go_wp2_with fail
      refine hK.out _ _ (by first | assumption | exact hcell | exact (Step.cell hS5 (p := ⟨gb, 1, none⟩) hgbw hugb).trans hcell) (fun hHeld1 => ?_)
      clear hK K
      try simp only [Act.put, List.setIfInBounds_toArray, List.set_cons_zero, List.set_cons_succ]
      refine wpAnyH_ready (rs := [10]) (by kernel_rfl) (by simp) ?_
      refine AllReadyH.cons (o := _) rfl (fun K hK => ?_) AllReadyH.nil
      (try simp only [List.getElem_toArray, List.getElem_cons_zero, List.getElem_cons_succ])
      go_simp
      go_at_call 27
      refine (AL.out _ rfl).mono ?_
      rintro e w5 ⟨v5, rfl, hT5, hS5⟩
      replace hS5 : Step wr u6 w5 v5 := (Step.same (Below.drew (Below.refl _ _))).trans hS5
      go_wp2_with fail
      refine hK.out _ _ (by first | assumption | exact hcell | exact (Step.cell hS5 (p := ⟨gb, 1, none⟩) hgbw hugb).trans hcell) (fun hHeld2 => ?_)
      clear hK K
      try simp only [Act.put, List.setIfInBounds_toArray, List.set_cons_zero, List.set_cons_succ]
      refine wpAnyH_take (i := 11) (oi := _) (v := ?_) rfl (by kernel_rfl) (by kernel_rfl) (by kernel_rfl) (fun _ _ _ h => h) (Or.inl ⟨by rfl, ?_⟩) (by assumption) ?_
      rotate_left
      · (intro w0 hSw; (try dsimp only at hSw); (try simp only [List.getElem_toArray, List.getElem_cons_zero, List.getElem_cons_succ]); go_simp; try (with_reducible rfl))
      try simp only [Act.put, List.getElem_toArray, List.getElem_cons_zero, List.getElem_cons_succ, List.setIfInBounds_toArray, List.set_cons_zero, List.set_cons_succ]
      refine wpAnyH_done (by kernel_rfl) ?_ _
      refine NoPanic.normal ?_
      )
      have HT5 : Hid (Txt B w5 v5 (t0 ++ cat (pL l G ni) (k + 1))) := by
        show Txt _ _ _ _
        rw [HNX.out, ← List.append_assoc, HFK.out]; exact hT5
      have HS5 : Hid (Step wc v0 w5 v5) := HSt.out.trans hS5
      clear hT5 hS5 HT HSt HNX hgu HTEr AL LT HFK c1 c2 hcell
      go_wp2
      go_roundw
      case measure => simp [intOf]; omega
      case rel => exact ⟨k + 1, by omega, by simp, HT5.out, HS5.out⟩
    · have hge : ¬ ((k : Int) < (G.lats.length : Int)) := by omega
      have HEN : Hid (Txt B wr u6 (t0 ++ cat (pL l G ni) (G.lats.length))) := by
        have := HT.out
        rw [show k = G.lats.length by omega] at this
        exact this
      clear HT
      go_wp2
      exact HK.out _ _ _ _ _ _ _ _ _ _ _ _ _ _ _ _ _ _ ⟨HEN.out, HSt.out⟩

set_option maxRecDepth 100000 in
set_option maxHeartbeats 8000000 in
theorem wrAnds (wc : World) (B : Nat) (v0 : Value) (t0 : List UInt8) (HT0 : Hid (Txt B wc v0 t0)) (hB : B ≤ wc.heap.size) (hG : Tryd.prog.globals.size ≤ B) (ht0 : t0.length ≤ 20000000) (HTE : Hid (Tens wc)) (l : Int) (gT : Int → AndD → List UInt8) (AG : Hid (∀ (w : World) (v : Value) (t : List UInt8), Txt B w v t → B ≤ w.heap.size → t.length ≤ 50000000 → Tens w → ∀ (own : Int) (d : AndD), (0 ≤ own ∧ own < 4294967296) → 0 ≤ d.x → d.x < own → 0 ≤ d.y → d.y < own → Calls Tryd.prog 29 #[v, .int .i64 l, .int .i64 own, .agg #[.int .i64 d.x, .int .i64 d.y]] w fun e w' => ∃ v', e = .returned v' ∧ Txt B w' v' (t ++ gT own d) ∧ Step w v w' v')) (G : GrD) (D n ni nl first hb : Nat) (a : Option Addr) (c : Nat) (q1 : wc.cell? ⟨hb, 1, none⟩ = some (.int .i64 (ni : Int))) (q2 : wc.cell? ⟨hb, 2, none⟩ = some (.int .i64 (nl : Int))) (hhb : hb < wc.heap.size) (hvh : v0.ownBlock ≠ some hb) (hf0 : 1 + ni + nl ≤ first) (hf1 : first ≤ 1 + ni + nl) (HR : Hid (RowAt D wc a 2 (G.ands.map AndD.cells))) (hD : D ≤ B) (hn : n ≤ 60000) (hfn : first + G.ands.length = n) (hin : ∀ (k : Nat) (d : AndD), G.ands[k]? = some d → (0 ≤ d.x ∧ d.x < 2 * ((first + k : Nat) : Int)) ∧ (0 ≤ d.y ∧ d.y < 2 * ((first + k : Nat) : Int))) (HFL : Hid (∀ i, i < G.ands.length → (pA gT G first i).length ≤ 60)) (K' : Act → World → Prop) (Q0 : Exit → Act → World → Prop) (x0 x2 x3 x4 x7 x8 x9 x10 x11 x12 x13 x14 x15 x16 x17 x18 x19 x20 x21 x22 x23 x24 x25 x26 x27 x28 x29 x30 x31 x32 x33 x34 x35 x36 x37 x38 x39 x40 x41 x42 x43 x44 x45 x46 x47 x48 x49 x50 x51 x52 x53 x54 x55 x56 x57 x58 x59 x60 x61 x62 x63 x64 x65 x66 x67 x68 x69 x70 x71 x72 x73 x74 x75 x79 x80 x81 x82 x83 x84 x85 x86 x87 x88 x89 x90 : Value)
    (HK : Hid (∀ (w' : World) (s6 s11 s12 s78 s79 s80 s81 s82 s83 s84 s85 s86 s87 s88 s89 : Value), Txt B w' s6 (t0 ++ cat (pA gT G first) G.ands.length) ∧ Step wc v0 w' s6 → K' ⟨#[x0, .int .i64 l, x2, x3, x4, .pointer (some ⟨hb, 0, none⟩), s6, x7, x8, x9, x10, s11, s12, x13, x14, x15, x16, x17, x18, x19, x20, x21, x22, x23, x24, x25, x26, x27, x28, x29, x30, x31, x32, x33, x34, x35, x36, x37, x38, x39, x40, x41, x42, x43, x44, x45, x46, x47, x48, x49, x50, x51, x52, x53, x54, x55, x56, x57, x58, x59, x60, x61, x62, x63, x64, x65, x66, x67, x68, x69, x70, x71, x72, x73, x74, x75, .slice a G.ands.length c, .int .i64 (G.ands.length : Int), s78, s79, s80, s81, s82, s83, s84, s85, s86, s87, s88, s89, x90], []⟩ w')) :
    Code.wp Tryd.prog ((Tryd.f15.body.bind (blockAt 6)).getD .skip) (Exit.then K' Q0) ⟨#[x0, .int .i64 l, x2, x3, x4, .pointer (some ⟨hb, 0, none⟩), v0, x7, x8, x9, x10, x11, x12, x13, x14, x15, x16, x17, x18, x19, x20, x21, x22, x23, x24, x25, x26, x27, x28, x29, x30, x31, x32, x33, x34, x35, x36, x37, x38, x39, x40, x41, x42, x43, x44, x45, x46, x47, x48, x49, x50, x51, x52, x53, x54, x55, x56, x57, x58, x59, x60, x61, x62, x63, x64, x65, x66, x67, x68, x69, x70, x71, x72, x73, x74, x75, .slice a G.ands.length c, .int .i64 (G.ands.length : Int), .int .i64 0, x79, x80, x81, x82, x83, x84, x85, x86, x87, x88, x89, x90], []⟩ wc := by
  conv => arg 2; whnf
  go_wp2_with fail
  go_loopw [6, 78] (fun b' i' w' => ∃ (k : Nat), k ≤ G.ands.length ∧ i' = .int .i64 k ∧ Hid (Txt B w' b' (t0 ++ cat (pA gT G first) k)) ∧ Hid (Step wc v0 w' b')) (fun _ i' _ => G.ands.length - (intOf i').toNat)
  case atStart => exact ⟨0, Nat.zero_le _, rfl, by show Txt _ _ _ _; rw [cat_zero, List.append_nil]; exact HT0.out, Step.refl _ _⟩
  case round =>
    obtain ⟨k, hk, rfl, HT, HSt⟩ := hrel
    have hsz := HSt.out.1.size
    by_cases hlt : k < G.ands.length
    · have hltI : (k : Int) < (G.ands.length : Int) := by omega
      have e3 : IntKind.i64.wrap ((k : Int) + 1) = (k : Int) + 1 := wrapI _ (by omega) (by omega)
      have HNX := hidden (cat_next (pA gT G first) k)
      have hlen : (t0 ++ cat (pA gT G first) k).length ≤ 50000000 := by
        rw [List.length_append]
        have := cat_len (f := pA gT G first) (m := 60) k (fun i hi => HFL.out i (by omega))
        omega
      have hgu := HT.out.ge
      have HTEr : Hid (Tens wr) := HTE.out.step HSt.out hB HT0.out.ge hG
      have hu : ∀ x, x < wc.heap.size → v0.ownBlock ≠ some x → u6.ownBlock ≠ some x := fun x hx hne e => by
        rcases HSt.out.2 x e with h1 | h1
        · exact hne h1
        · omega
      have gfar : ∀ x, x < B → v0.ownBlock ≠ some x := fun x hx e => by have := HT0.out.ge x e; omega
      obtain ⟨d, hd⟩ : ∃ d, G.ands[k]? = some d := getElem_lt hlt
      obtain ⟨rb, ro, ea, hrb, hrc⟩ := HR.out.el hd
      subst ea
      have c1 : wr.cell? ⟨rb, ro + k * 2, none⟩ = some (.int .i64 d.x) := (HSt.out.cell (p := ⟨rb, ro + k * 2, none⟩) (by show rb < _; omega) (gfar rb (by omega))).trans (hrc 0 _ rfl)
      have c2 : wr.cell? ⟨rb, ro + k * 2 + 1, none⟩ = some (.int .i64 d.y) := (HSt.out.cell (p := ⟨rb, ro + k * 2 + 1, none⟩) (by show rb < _; omega) (gfar rb (by omega))).trans (hrc 1 _ rfl)
      have hxi := hin k d hd
      have HFK := hidden (pA_line (gT := gT) (first := first) hd)
      obtain ⟨dx, dy⟩ := d
      simp only at c1 c2 hxi
      go_upto_region 23 with fail
      generalize hWA : World.alloc wr _ = wA
      obtain ⟨lb, hlb⟩ : ∃ x, x = wr.heap.size := ⟨_, rfl⟩
      have HBA : Hid (Below wr.heap.size wr wA) := by rw [← hWA]; exact (Below.refl _ _).alloc (Nat.le_refl _) _
      have g0 : wA.cell? ⟨lb, 0, none⟩ = some (.int .i64 dx) := by rw [← hWA, hlb]; exact cell_new rfl
      have g1 : wA.cell? ⟨lb, 1, none⟩ = some (.int .i64 dy) := by rw [← hWA, hlb]; exact cell_new rfl
      have hlA : lb < wA.heap.size := by rw [← hWA, hlb]; simp
      have hlr : wr.heap.size ≤ lb := by omega
      rw [← hlb]
      have hsA := HBA.out.size
      have GT : Hid (∀ w', w' = wA.drew → Calls Tryd.prog 30 #[.pointer (some ⟨hb, 0, none⟩), .int .i64 (k : Int)] w' fun e w'' => e = .returned (.int .i64 (2 * ((first : Int) + (k : Int)))) ∧ ∃ m, w'' = w'.drewN m) := fun w' hw' => by
        rw [hw']
        have := gate_any wA.drew hb ni nl k ((HBA.out.cell (p := ⟨hb, 1, none⟩) (by show hb < _; omega)).trans ((HSt.out.cell (p := ⟨hb, 1, none⟩) hhb hvh).trans q1)) ((HBA.out.cell (p := ⟨hb, 2, none⟩) (by show hb < _; omega)).trans ((HSt.out.cell (p := ⟨hb, 2, none⟩) hhb hvh).trans q2)) (by omega) (by omega) (by omega)
        rw [show (1 : Int) + (ni : Int) + (nl : Int) + (k : Int) = (first : Int) + (k : Int) by omega] at this
        exact this
      have AL : Hid (∀ w', Below wA.heap.size wA w' → Calls Tryd.prog 29 #[u6, .int .i64 l, .int .i64 (2 * ((first : Int) + (k : Int))), .agg #[.int .i64 dx, .int .i64 dy]] w' fun e w'' => ∃ v', e = .returned v' ∧ Txt B w'' v' (t0 ++ cat (pA gT G first) k ++ gT (2 * ((first : Int) + (k : Int))) ⟨dx, dy⟩) ∧ Step w' u6 w'' v') := fun w' hw' => by
        have hbw : Below wr.heap.size wr w' := HBA.out.trans (hw'.mono hsA)
        exact AG.out w' u6 _ (HT.out.to hbw) (by have := hw'.size; omega) hlen (HTEr.out.to hbw (by omega)) _ ⟨dx, dy⟩ (by omega) hxi.1.1 (by simp only; omega) hxi.2.1 (by simp only; omega)
      have hul : u6.ownBlock ≠ some lb := fun e => by have := (OwnM.lt HT.out lb e).2; omega
      clear hWA hlb c1 c2 hrc hd hxi
      (
      refine wp_region_noPanic ?_
      refine wp_region_held_drew (S := (fun w' => w'.cell? ⟨lb, 0, none⟩ = some (.int .i64 dx) ∧ w'.cell? ⟨lb, 1, none⟩ = some (.int .i64 dy))) (by kernel_rfl) (by first | assumption | exact ⟨g0, g1⟩ | (rw [hw2]; exact ⟨g0, g1⟩) | exact ⟨(Step.cell hS5 (p := ⟨lb, 0, none⟩) hlA hul).trans g0, (Step.cell hS5 (p := ⟨lb, 1, none⟩) hlA hul).trans g1⟩) (fun hHeld => ?_)
      refine wpAnyH_take (i := 0) (oi := _) (v := ?_) rfl (by kernel_rfl) (by kernel_rfl) (by kernel_rfl) (fun _ _ _ h => h) (Or.inl ⟨by rfl, ?_⟩) (by assumption) ?_
      rotate_left
      · (intro w0 hSw; (try dsimp only at hSw); (try simp only [List.getElem_toArray, List.getElem_cons_zero]); go_simp; try (with_reducible rfl))
      try simp only [Act.put, List.getElem_toArray, List.getElem_cons_zero, List.setIfInBounds_toArray, List.set_cons_zero, List.set_cons_succ]
      refine wpAnyH_take (i := 1) (oi := _) (v := ?_) rfl (by kernel_rfl) (by kernel_rfl) (by kernel_rfl) (fun _ _ _ h => h) (Or.inl ⟨by rfl, ?_⟩) (by assumption) ?_
      rotate_left
      · (intro w0 hSw; (try dsimp only at hSw); (try simp only [List.getElem_toArray, List.getElem_cons_zero, List.getElem_cons_succ]); go_simp; try (with_reducible rfl))
      try simp only [Act.put, List.getElem_toArray, List.getElem_cons_zero, List.getElem_cons_succ, List.setIfInBounds_toArray, List.set_cons_zero, List.set_cons_succ]
      refine wpAnyH_take (i := 2) (oi := _) (v := ?_) rfl (by kernel_rfl) (by kernel_rfl) (by kernel_rfl) (fun _ _ _ h => h) (Or.inl ⟨by rfl, ?_⟩) (by assumption) ?_
      rotate_left
      · (intro w0 hSw; (try dsimp only at hSw); (try simp only [List.getElem_toArray, List.getElem_cons_zero, List.getElem_cons_succ]); go_simp; try (with_reducible rfl))
      try simp only [Act.put, List.getElem_toArray, List.getElem_cons_zero, List.getElem_cons_succ, List.setIfInBounds_toArray, List.set_cons_zero, List.set_cons_succ]
      refine wpAnyH_take (i := 4) (oi := _) (v := ?_) rfl (by kernel_rfl) (by kernel_rfl) (by kernel_rfl) (fun _ _ _ h => h) (Or.inl ⟨by rfl, ?_⟩) (by assumption) ?_
      rotate_left
      · (intro w0 hSw; (try dsimp only at hSw); (try simp only [List.getElem_toArray, List.getElem_cons_zero, List.getElem_cons_succ]); go_simp; try (with_reducible rfl))
      try simp only [Act.put, List.getElem_toArray, List.getElem_cons_zero, List.getElem_cons_succ, List.setIfInBounds_toArray, List.set_cons_zero, List.set_cons_succ]
      refine wpAnyH_ready (rs := [3]) (by kernel_rfl) (by simp) ?_
      refine AllReadyH.cons (o := _) rfl (fun K hK => ?_) AllReadyH.nil
      (try simp only [List.getElem_toArray, List.getElem_cons_zero, List.getElem_cons_succ])
      go_simp
      go_at_call 30
      refine (GT.out _ rfl).mono ?_
      rintro e w2 ⟨rfl, dk, hw2⟩
      have hb2 : Below wA.heap.size wA w2 := by rw [hw2]; exact Below.drewN (Below.drew (Below.refl _ _)) _
      go_wp2_with fail
      refine hK.out _ _ (by first | assumption | exact ⟨g0, g1⟩ | (rw [hw2]; exact ⟨g0, g1⟩) | exact ⟨(Step.cell hS5 (p := ⟨lb, 0, none⟩) hlA hul).trans g0, (Step.cell hS5 (p := ⟨lb, 1, none⟩) hlA hul).trans g1⟩) (fun hHeld1 => ?_)
      clear hK K
      try simp only [Act.put, List.setIfInBounds_toArray, List.set_cons_zero, List.set_cons_succ]
      refine wpAnyH_ready (rs := [5]) (by kernel_rfl) (by simp) ?_
      refine AllReadyH.cons (o := _) rfl (fun K hK => ?_) AllReadyH.nil
      (try simp only [List.getElem_toArray, List.getElem_cons_zero, List.getElem_cons_succ])
      go_simp
      go_at_call 29
      refine (AL.out _ (by first | exact hb2 | exact Below.drewN (Below.refl _ _) _)).mono ?_
      rintro e w5 ⟨v5, rfl, hT5, hS5⟩
      replace hS5 : Step wA u6 w5 v5 := (Step.same (by first | exact hb2 | exact Below.drewN (Below.refl _ _) _)).trans hS5
      go_wp2_with fail
      refine hK.out _ _ (by first | assumption | exact ⟨g0, g1⟩ | (rw [hw2]; exact ⟨g0, g1⟩) | exact ⟨(Step.cell hS5 (p := ⟨lb, 0, none⟩) hlA hul).trans g0, (Step.cell hS5 (p := ⟨lb, 1, none⟩) hlA hul).trans g1⟩) (fun hHeld2 => ?_)
      clear hK K
      try simp only [Act.put, List.setIfInBounds_toArray, List.set_cons_zero, List.set_cons_succ]
      refine wpAnyH_take (i := 6) (oi := _) (v := ?_) rfl (by kernel_rfl) (by kernel_rfl) (by kernel_rfl) (fun _ _ _ h => h) (Or.inl ⟨by rfl, ?_⟩) (by assumption) ?_
      rotate_left
      · (intro w0 hSw; (try dsimp only at hSw); (try simp only [List.getElem_toArray, List.getElem_cons_zero, List.getElem_cons_succ]); go_simp; try (with_reducible rfl))
      try simp only [Act.put, List.getElem_toArray, List.getElem_cons_zero, List.getElem_cons_succ, List.setIfInBounds_toArray, List.set_cons_zero, List.set_cons_succ]
      refine wpAnyH_done (by kernel_rfl) ?_ _
      refine NoPanic.normal ?_
      )
      have HT5 : Hid (Txt B w5 v5 (t0 ++ cat (pA gT G first) (k + 1))) := by
        show Txt _ _ _ _
        rw [HNX.out, ← List.append_assoc, HFK.out]; exact hT5
      have HS5 : Hid (Step wc v0 w5 v5) := HSt.out.trans ((Step.same HBA.out).trans hS5)
      clear hT5 hS5 HT HSt HNX hgu HTEr AL GT HFK g0 g1
      go_wp2
      go_roundw
      case measure => simp [intOf]; omega
      case rel => exact ⟨k + 1, by omega, by simp, HT5.out, HS5.out⟩
    · have hge : ¬ ((k : Int) < (G.ands.length : Int)) := by omega
      have HEN : Hid (Txt B wr u6 (t0 ++ cat (pA gT G first) (G.ands.length))) := by
        have := HT.out
        rw [show k = G.ands.length by omega] at this
        exact this
      clear HT
      go_wp2
      exact HK.out _ _ _ _ _ _ _ _ _ _ _ _ _ _ _ _ ⟨HEN.out, HSt.out⟩

end Go.Proofs.YtmifbcpinhpnnaaDoor
