import Derived.Test.YtmifbcpinhpnnaaDoorArI
import Derived.Test.YtmifbcpinhpnnaaDoorAsB
namespace Go.Proofs.YtmifbcpinhpnnaaDoor
open Go.RowKit

def fF (G : GrD) (i : Nat) : List UInt8 := match G.lats[i]? with | some d => firstT d | none => []
theorem pL_bytes (G : GrD) (ni i : Nat) : pL 1 G ni i = fF G i := by
  unfold pL fF
  cases G.lats[i]? with
  | none => rfl
  | some d =>
    obtain ⟨nx, ini⟩ := d
    cases ini
    · simp [lineT, latN, joinT, firstT]
    · simp [lineT, latN, joinT, firstT, decI_one]
theorem lensP_bytes {G : GrD} {ni n : Nat} (hF : FineG G ni n) : (∀ i, i < G.lats.length → (pL 1 G ni i).length ≤ 60) ∧ (∀ i, i < G.ands.length → (pA pkT G (firstN G) i).length ≤ 60) := by
  have h1 := hF.first
  have h2 := hF.all
  have h3 := hF.le
  refine ⟨fun i hi => ?_, fun i hi => ?_⟩
  · rw [pL_bytes]
    unfold fF
    obtain ⟨x, hx⟩ := getElem_lt hi
    rw [hx]
    have hin := hF.lats x (List.mem_of_getElem? hx)
    have := firstT_len (l := x) (by omega)
    simp only
    omega
  · unfold pA
    obtain ⟨x, hx⟩ := getElem_lt hi
    rw [hx]
    have hin := hF.ands i x hx
    simp only
    unfold pkT
    have a1 := seven_len (2 * ((firstN G : Int) + (i : Int)) - max x.x x.y).toNat (by omega)
    have a2 := seven_len (max x.x x.y - min x.x x.y).toNat (by omega)
    rw [List.length_append]
    omega
/-- a graph's bytes -/
def packT (G : GrD) : List UInt8 := headT [97, 105, 103] G ++ cat (fF G) G.lats.length ++ cat (fO G) G.outs.length ++ cat (pA pkT G (firstN G)) G.ands.length

set_option maxRecDepth 100000 in
set_option maxHeartbeats 16000000 in
theorem written_bytes (D : Nat) (w : World) (gb : Nat) (S : GrS) (G : GrD) (ni n : Nat) (hF : FineG G ni n) (h : BoxAt w gb S G) (hat : GrAt D w S G) (hD : D ≤ w.heap.size) (ht : Tens w) (hG : Tryd.prog.globals.size ≤ w.heap.size) :
    Calls Tryd.prog 15 #[.pointer (some ⟨gb, 0, none⟩), .int .i64 1] w fun e w' => ∃ v', e = .returned v' ∧ Txt w.heap.size w' v' (headT [97, 105, 103] G ++ cat (pL 1 G ni) G.lats.length ++ cat (fO G) G.outs.length ++ cat (pA pkT G (firstN G)) G.ands.length) ∧ Below w.heap.size w w' := by
  have HO := hidden (headOf_any w gb S G ni n hF h)
  have WO : Hid (∀ w' : World, Calls Tryd.prog 25 #[.int .i64 1] w' fun e w'' => e = .returned (.string (bs [97, 105, 103])) ∧ w'' = w') := fun w' => word_any 1 (by decide) w'
  have HLE := hidden (lens_of hF)
  have HLP := hidden (lensP_bytes hF)
  have HF := hidden hF
  have f1 := hF.first
  have f2 := hF.all
  have f3 := hF.le
  have f4 := hF.ll
  have f5 := hF.lo
  obtain ⟨first, hfd⟩ : ∃ f, f = firstN G := ⟨_, rfl⟩
  have HFD := hidden hfd
  rw [← hfd] at f1 f2 HLE HLP ⊢
  have hfl : 1 + ni + G.lats.length ≤ first := by omega
  have hfl' : first ≤ 1 + ni + G.lats.length := by omega
  obtain ⟨m, hm⟩ : ∃ m : Int, m = (ni : Int) + (G.lats.length : Int) + (G.ands.length : Int) := ⟨_, rfl⟩
  rw [← hm] at HO
  have HHT : Hid (headT [97, 105, 103] G = [97, 105, 103] ++ [32] ++ lineT [m, (ni : Int), (G.lats.length : Int), (G.outs.length : Int), (G.ands.length : Int)]) := by
    show _ = _
    unfold headT
    rw [hF.ins, hm]
    simp [lineT, joinT]
  have hmb : 0 ≤ m ∧ m < 4294967296 := by omega
  have HBX := hidden h
  have HAT := hidden hat
  have HTE := hidden ht
  have hgb := h.lt
  obtain ⟨i0, hi, hz, hs, hb⟩ := info_u8
  have HI := hidden hi
  have HZ := hidden hz
  have HS := hidden hs
  have HBY := hidden hb
  clear hF h hat ht hfd f1 hm hi hz hs hb
  go_enter Tryd.func15, Tryd.ntmps15
  go_wp2_with fail
  go_at_call 24
  refine HO.out.mono ?_
  rintro e w1 ⟨rfl, hb1⟩
  have HB1 := hidden hb1
  clear hb1 HO
  go_upto_region 2 with fail
  generalize hW2 : World.alloc w1 _ = w2
  obtain ⟨hb, hhbd⟩ : ∃ x, x = w1.heap.size := ⟨_, rfl⟩
  have HC2 : Hid (∀ j, w2.cell? ⟨hb, j, none⟩ = (#[.int .i64 m, .int .i64 (ni : Int), .int .i64 (G.lats.length : Int), .int .i64 (G.outs.length : Int), .int .i64 (G.ands.length : Int)] : Array Value)[j]?) := by
    rw [← hW2, hhbd]; intro j; exact cell_new rfl
  have HB2 : Hid (Below w.heap.size w w2) := by rw [← hW2]; exact HB1.out.alloc HB1.out.size _
  have hhb2 : hb < w2.heap.size := by rw [← hW2, hhbd]; simp
  have hwhb : w.heap.size ≤ hb := by rw [hhbd]; exact HB1.out.size
  rw [← hhbd]
  clear hW2 hhbd HB1
  go_wp2_with fail
  go_at_call 25
  refine (WO.out _).mono ?_
  rintro e w2' ⟨rfl, hw2'⟩
  subst hw2'
  obtain ⟨W3, HW3⟩ : ∃ W3, Hid (W3 = Lib.bytesWorld w2' 5 (bs [97, 105, 103])) := ⟨_, rfl⟩
  obtain ⟨cap, HCP⟩ : ∃ c, Hid (c = grownCap w2' 3 0 5) := ⟨_, rfl⟩
  have hcv : (convert 9 33 (.string (bs [97, 105, 103]))).run Tryd.prog w2' = .ok (.slice (some ⟨w2'.heap.size, 0, none⟩) 3 cap) W3 := by
    rw [HW3.out, HCP.out]
    exact Lib.run_convert_string_bytes w2' 9 33 5 (bs [97, 105, 103]) Tryd.underlying9 Tryd.underlying33 Tryd.underlying5
  have hs3 : w2'.heap.size ≤ W3.heap.size := by rw [HW3.out, Lib.bytesWorld_size]; omega
  have HB23 : Hid (Below w2'.heap.size w2' W3) := by
    rw [HW3.out]
    exact ⟨rfl, rfl, rfl, by rw [Lib.bytesWorld_size]; omega, fun k hk => Lib.bytesWorld_at_old _ _ _ k hk⟩
  have hge := grownCap_ge w2' 3 0 5
  have hle := grownCap_le_maxLen w2' 3 0 5 (by simp only [maxLen]; omega)
  have HO3 : Hid (OwnM W3 w2'.heap.size 5 (.slice (some ⟨w2'.heap.size, 0, none⟩) 3 cap) 3 (bC8 [97, 105, 103])) := by
    refine ⟨by rw [bC8_len]; rfl, .inr ⟨w2'.heap.size, cap, Lib.bytesCells w2' 5 (bs [97, 105, 103]), (_, _), rfl, Nat.le_refl _, by rw [HW3.out]; exact Lib.bytesWorld_at_new _ _ _, .inr ?_, by rw [HCP.out]; exact hge, by rw [HCP.out]; exact hle, ?_, ?_⟩⟩
    · rw [HCP.out]; unfold Lib.bytesCells; simp [bs, ByteArray.size]; omega
    · rw [HCP.out]; unfold Lib.bytesCells; simp [bs, ByteArray.size]; omega
    · unfold Lib.bytesCells; simp [bs, Lib.byteCells]
  have HOA : Hid (OwnM (W3.alloc (.cells #[.int .u8 32] 5)) w2'.heap.size 5 (.slice (some ⟨w2'.heap.size, 0, none⟩) 3 cap) 3 (bC8 [97, 105, 103])) := OwnM.alloc HO3.out _
  have hB3 : w2'.heap.size ≤ (W3.alloc (.cells #[.int .u8 32] 5)).heap.size := by simp; omega
  clear hge hle
  have tok : True := trivial
  go_upto_region 3 with (have _t := tok; at_builtin; (refine wpList_appendM _ rfl (.tmp 17) (.tmp 18) 33 rfl w2'.heap.size 5 i0 Tryd.underlying33 HI.out HZ.out HS.out HBY.out _ 3 _ rfl HOA.out ⟨W3.heap.size, 0, none⟩ 1 1 [.int .u8 32] rfl rfl (World.news_of_block (heap_new _ _)) (by simp [Value.oneCell']) (by decide) hB3 ?_; intro v4 w4 hown4 hst4; clear tok))
  have HT4 : Hid (Txt w2'.heap.size w4 v4 ([97, 105, 103] ++ [32])) := txt_one (t := [97, 105, 103]) hown4
  have HS4 : Hid (Step W3 (.slice (some ⟨w2'.heap.size, 0, none⟩) 3 cap) w4 v4) := (Step.same ((Below.refl _ _).alloc (Nat.le_refl _) _)).trans hst4
  have HB24 : Hid (Below w2'.heap.size w2' w4) := HB23.out.trans (HS4.out.below (by omega) (fun k hk => (OwnM.lt HO3.out k hk).1))
  have hs4 := HB24.out.size
  clear hown4 hst4 HOA HO3 hB3 hcv HW3 HCP HB23 HS4 WO
  have HTW : Hid (Txt w.heap.size w4 v4 ([97, 105, 103] ++ [32])) := by
    rcases HT4.out with ⟨h1, h2⟩
    refine ⟨h1, ?_⟩
    rcases h2 with h2 | ⟨g, c, cur, fz, hv, hbg, r⟩
    · exact .inl h2
    · exact .inr ⟨g, c, cur, fz, hv, by have := HB2.out.size; omega, r⟩
  have HBw4 : Hid (Below w.heap.size w w4) := HB2.out.trans (HB24.out.mono HB2.out.size)
  have hw4 := HBw4.out.size
  have HC4 : Hid (∀ j, w4.cell? ⟨hb, j, none⟩ = (#[.int .i64 m, .int .i64 (ni : Int), .int .i64 (G.lats.length : Int), .int .i64 (G.outs.length : Int), .int .i64 (G.ands.length : Int)] : Array Value)[j]?) := fun j => (HB24.out.cell (p := ⟨hb, j, none⟩) hhb2).trans (HC2.out j)
  have hvh4 : v4.ownBlock ≠ some hb := fun e => by have := (OwnM.lt HT4.out hb e).1; omega
  have HTE4 : Hid (Tens w4) := HTE.out.to HBw4.out hG
  have AL : Hid (Calls Tryd.prog 26 #[v4, .slice (some ⟨hb, 0, none⟩) 5 5] w4 fun e w' => ∃ v', e = .returned v' ∧ Txt w.heap.size w' v' ([97, 105, 103] ++ [32] ++ lineT [m, (ni : Int), (G.lats.length : Int), (G.outs.length : Int), (G.ands.length : Int)]) ∧ Step w4 v4 w' v') :=
    appendLine_any w.heap.size w4 v4 _ HTW.out hw4 hG (by simp) HTE4.out [m, (ni : Int), (G.lats.length : Int), (G.outs.length : Int), (G.ands.length : Int)] hb 0 5 (by omega) hvh4 (fun j z hz => by
      rw [Nat.zero_add, HC4.out j]
      have := congrArg (Option.map intV) hz
      rw [← List.getElem?_map] at this
      simpa [intV] using this) (by intro z hz; simp only [List.mem_cons, List.not_mem_nil, or_false] at hz; omega) (by simp)
  rw [← HHT.out] at AL
  have hal : Tryd.prog.arrayLen 47 = 5 := by kernel_rfl
  have hsl : ∀ W, (Instr.sliceAt 47 (.pointer (some ⟨hb, 0, none⟩)) none none none).run Tryd.prog W = .ok (.slice (some ⟨hb, 0, none⟩) 5 5) W := fun W => by
    rw [run_sliceAt_array_all W 47 ⟨hb, 0, none⟩ (by kernel_rfl), hal]
    go_simp
  have hge4 := HTW.out.ge
  clear HT4 HB24 HC2 HTW
  go_wp2_with fail
  go_at_call 26
  refine AL.out.mono ?_
  rintro e w5 ⟨v5, rfl, hT5, hS5⟩
  have HT5 := hidden hT5
  have HS5 := hidden hS5
  have hs5 := hS5.1.size
  have HBw5 : Hid (Below w.heap.size w w5) := HBw4.out.trans (hS5.below (by omega) hge4)
  have HC5 : Hid (∀ j, w5.cell? ⟨hb, j, none⟩ = (#[.int .i64 m, .int .i64 (ni : Int), .int .i64 (G.lats.length : Int), .int .i64 (G.outs.length : Int), .int .i64 (G.ands.length : Int)] : Array Value)[j]?) := fun j => (HS5.out.cell (p := ⟨hb, j, none⟩) (by show hb < _; omega) hvh4).trans (HC4.out j)
  have hvh5 : v5.ownBlock ≠ some hb := fun e => by
    rcases HS5.out.2 hb e with h1 | h1
    · exact hvh4 h1
    · omega
  have HTE5 : Hid (Tens w5) := HTE.out.to HBw5.out hG
  have hwb := headT_len HF.out [97, 105, 103] (by decide)
  have KS : Hid (∀ w' v', Step w5 v5 w' v' → Below w.heap.size w w' ∧ (∀ j, w'.cell? ⟨hb, j, none⟩ = (#[.int .i64 m, .int .i64 (ni : Int), .int .i64 (G.lats.length : Int), .int .i64 (G.outs.length : Int), .int .i64 (G.ands.length : Int)] : Array Value)[j]?) ∧ v'.ownBlock ≠ some hb) := fun w' v' hs => ⟨HBw5.out.trans (hs.below (by omega) HT5.out.ge), fun j => (hs.cell (p := ⟨hb, j, none⟩) (by show hb < _; omega) hvh5).trans (HC5.out j), fun e => by
    rcases hs.2 hb e with h1 | h1
    · exact hvh5 h1
    · omega⟩
  have KG : Hid (∀ w', Below w.heap.size w w' → GrAt D w' S G ∧ BoxAt w' gb S G) := fun w' hb => ⟨HAT.out.to (hb.mono hD), HBX.out.to hgb hb⟩
  clear hT5 hS5 AL HC4 HTE4 HBw4 hal hsl hge4 HHT
  obtain ⟨x6, hx6⟩ : ∃ x, x = v5 := ⟨_, rfl⟩
  obtain ⟨w6, hw6⟩ : ∃ x, x = w5 := ⟨_, rfl⟩
  rw [← hx6] at HT5 ⊢
  rw [← hw6] at HT5 ⊢
  have HT6 := HT5
  have HS6 : Hid (Step w5 v5 w6 x6) := by rw [hw6, hx6]; exact Step.refl _ _
  have hs6 := HS6.out.1.size
  obtain ⟨HBw6, HC6, hvh6⟩ := KS.out _ _ HS6.out
  have HBw6 := hidden HBw6
  have HC6 := hidden HC6
  have hl6 : (headT [97, 105, 103] G).length ≤ 20000000 := by omega
  clear hx6 hw6
  have HTE6 : Hid (Tens w6) := HTE.out.to HBw6.out hG
  have ql := (KG.out w6 HBw6.out).2.c1
  go_upto_block 2 with fail
  refine wrLats w6 w.heap.size x6 (headT [97, 105, 103] G) HT6 (by omega) hG hl6 HTE6 1 (by decide) G D n ni gb hb S.a1 S.c1 ql hgb (by simpa using HC6.out 1) (by omega) hvh6 (by omega) (KG.out w6 HBw6.out).1.l hD f3 HF.out.lats (by omega) HLP.out.1 _ _ _ _ _ _ _ _ _ _ _ _ _ _ _ _ _ _ _ _ _ _ _ _ _ _ _ _ _ _ _ _ _ _ _ _ _ _ _ _ _ _ _ _ _ _ _ _ _ _ _ _ _ _ _ _ _ _ _ _ _ _ _ _ _ _ _ _ _ _ _ _ _ _ _ _ _ _ _ _ _ _ _ _ _ _ _ (hidden ?_)
  intro w7 x7 v8 v44 v45 v46 v47 v48 v49 v50 v51 v52 v53 v54 v55 v56 v57 v58 hcut
  obtain ⟨hT7, hS7⟩ := hcut
  have HT7 := hidden hT7
  have HS7 : Hid (Step w5 v5 w7 x7) := HS6.out.trans hS7
  have hs7 := hS7.1.size
  obtain ⟨HBw7, HC7, hvh7⟩ := KS.out _ _ HS7.out
  have HBw7 := hidden HBw7
  have HC7 := hidden HC7
  clear hT7 hS7 ql
  have hlL : (cat (pL 1 G ni) G.lats.length).length ≤ 60 * G.lats.length := cat_len _ HLP.out.1
  have hl7 : (headT [97, 105, 103] G ++ cat (pL 1 G ni) G.lats.length).length ≤ 20000000 := by
    rw [List.length_append]
    omega
  have HTE7 : Hid (Tens w7) := HTE.out.to HBw7.out hG
  have ql := (KG.out w7 HBw7.out).2.c3
  go_upto_block 4 with fail
  refine wrOuts w7 w.heap.size x7 (headT [97, 105, 103] G ++ cat (pL 1 G ni) G.lats.length) HT7 (by omega) hG hl7 HTE7 G D n S.a3 S.c3 (KG.out w7 HBw7.out).1.o hD f3 HF.out.outs f5 HLE.out.o _ _ _ _ _ _ _ _ _ _ _ _ _ _ _ _ _ _ _ _ _ _ _ _ _ _ _ _ _ _ _ _ _ _ _ _ _ _ _ _ _ _ _ _ _ _ _ _ _ _ _ _ _ _ _ _ _ _ _ _ _ _ _ _ _ _ _ _ _ _ _ _ _ _ _ _ _ _ _ _ _ _ _ _ _ _ _ _ _ (hidden ?_)
  intro w8 x8 v10 v64 v65 v66 v67 v68 v69 v70 v71 v72 hcut
  obtain ⟨hT8, hS8⟩ := hcut
  have HT8 := hidden hT8
  have HS8 : Hid (Step w5 v5 w8 x8) := HS7.out.trans hS8
  have hs8 := hS8.1.size
  obtain ⟨HBw8, HC8, hvh8⟩ := KS.out _ _ HS8.out
  have HBw8 := hidden HBw8
  have HC8 := hidden HC8
  clear hT8 hS8 ql
  have hlO : (cat (fO G) G.outs.length).length ≤ 60 * G.outs.length := cat_len _ HLE.out.o
  have hl8 : (headT [97, 105, 103] G ++ cat (pL 1 G ni) G.lats.length ++ cat (fO G) G.outs.length).length ≤ 20000000 := by
    simp only [List.length_append] at hl6 hl7 ⊢
    omega
  have HTE8 : Hid (Tens w8) := HTE.out.to HBw8.out hG
  have ql := (KG.out w8 HBw8.out).2.c2
  go_upto_block 6 with fail
  refine wrAnds w8 w.heap.size x8 (headT [97, 105, 103] G ++ cat (pL 1 G ni) G.lats.length ++ cat (fO G) G.outs.length) HT8 (by omega) hG hl8 HTE8 1 pkT (show ∀ (w : World) (v : Value) (t : List UInt8), _ from fun w9 v9 t9 h1 h2 h3 h4 own d h5 h6 h7 h8 h9 => appendGate_bytes _ w9 v9 t9 h1 h2 h3 own d h5 h6 h7 h8 h9) G D n ni G.lats.length first hb S.a2 S.c2 (by simpa using HC8.out 1) (by simpa using HC8.out 2) (by omega) hvh8 hfl hfl' (KG.out w8 HBw8.out).1.a hD f3 f2 (by rw [HFD.out]; exact HF.out.ands) HLP.out.2 _ _ _ _ _ _ _ _ _ _ _ _ _ _ _ _ _ _ _ _ _ _ _ _ _ _ _ _ _ _ _ _ _ _ _ _ _ _ _ _ _ _ _ _ _ _ _ _ _ _ _ _ _ _ _ _ _ _ _ _ _ _ _ _ _ _ _ _ _ _ _ _ _ _ _ _ _ _ _ _ _ _ _ _ _ _ _ (hidden ?_)
  intro w9 x9 v11 v12 v78 v79 v80 v81 v82 v83 v84 v85 v86 v87 v88 v89 hcut
  obtain ⟨hT9, hS9⟩ := hcut
  have HS9 : Hid (Step w5 v5 w9 x9) := HS8.out.trans hS9
  obtain ⟨HBw9, _, _⟩ := KS.out _ _ HS9.out
  clear hS9 ql
  go_wp2
  go_ret
  exact ⟨x9, rfl, hT9, HBw9⟩

set_option maxRecDepth 100000 in
set_option maxHeartbeats 8000000 in
theorem pack_any (D : Nat) (w : World) (S : GrS) (G : GrD) (h : GrAt D w S G) (hD : D ≤ w.heap.size) (hok : GrOk G = true) (ht : Tens w) (hG : Tryd.prog.globals.size ≤ w.heap.size) :
    Calls Tryd.prog 11 #[.agg (S.cells G)] w fun e w' => (∃ v B', e = .returned v ∧ w.heap.size ≤ B' ∧ Txt B' w' v (packT G)) ∧ Below w.heap.size w w' := by
  obtain ⟨ni, n, hF⟩ := fine_of hok
  have VL : Hid (∀ w', Below w.heap.size w w' → Calls Tryd.prog 14 #[.agg (S.cells G)] w' fun e w'' => e = .returned (.bool true) ∧ Below w'.heap.size w' w'') := fun w' hw' => by
    have := valid_any D w' S G (h.to (hw'.mono hD)) (Nat.le_trans hD hw'.size)
    rw [hok] at this
    exact this
  have HT : Hid (headT [97, 105, 103] G ++ cat (pL 1 G ni) G.lats.length ++ cat (fO G) G.outs.length ++ cat (pA pkT G (firstN G)) G.ands.length = packT G) := by
    show _ = _
    unfold packT
    rw [cat_congr _ (pL_bytes G ni)]
  have HF := hidden hF
  have HAT := hidden h
  have HTE := hidden ht
  have hcs : S.cells G = #[.int .i64 G.ins, .slice S.a1 G.lats.length S.c1, .slice S.a2 G.ands.length S.c2, .slice S.a3 G.outs.length S.c3] := rfl
  rw [hcs] at VL ⊢
  clear h hF hok ht hcs
  go_enter Tryd.func11, Tryd.ntmps11
  go_upto_region 1 with fail
  generalize hW0 : World.alloc w _ = w0
  have HB0 : Hid (Below w.heap.size w w0) := by rw [← hW0]; exact (Below.refl _ _).alloc (Nat.le_refl _) _
  have HX0 : Hid (BoxAt w0 w.heap.size S G) := by
    rw [← hW0]
    exact ⟨by simp, by simp, by simp, by simp, by simp⟩
  clear hW0
  have q0 := HX0.out.c0
  have q1 := HX0.out.c1
  have q2 := HX0.out.c2
  have q3 := HX0.out.c3
  go_wp2_with fail
  go_at_call 14
  refine (VL.out _ HB0.out).mono ?_
  rintro e w1 ⟨rfl, hb1⟩
  have HX1 := hidden (HX0.out.to HX0.out.lt hb1)
  have HB1 : Hid (Below w.heap.size w w1) := HB0.out.trans (hb1.mono HB0.out.size)
  have hs1 := HB1.out.size
  have WR := hidden (written_bytes D w1 w.heap.size S G ni n HF.out HX1.out (HAT.out.to (HB1.out.mono hD)) (by omega) (HTE.out.to HB1.out hG) (by omega))
  rw [HT.out] at WR
  clear hb1 q0 q1 q2 q3 HX0 VL
  go_wp2_with fail
  go_at_call 15
  refine WR.out.mono ?_
  rintro e w2 ⟨v2, rfl, hT2, hb2⟩
  have HB2 : Hid (Below w.heap.size w w2) := HB1.out.trans (hb2.mono hs1)
  have HT2 := hidden hT2
  clear hT2 hb2
  go_wp2
  go_ret
  exact ⟨⟨v2, w1.heap.size, rfl, hs1, HT2.out⟩, HB2.out⟩

end Go.Proofs.YtmifbcpinhpnnaaDoor
