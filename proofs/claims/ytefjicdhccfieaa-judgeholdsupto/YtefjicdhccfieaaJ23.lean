import Derived.Test.YtefjicdhccfieaaJ01
import Derived.Test.YtefjicdhccfieaaJ22
import Derived.Test.YtefjicdhccfieaaJ18
set_option maxRecDepth 100000
set_option maxHeartbeats 16000000
namespace Go.Proofs.Ytefjicdhccfieaa
open Go.RowKit
theorem tk_nil {w1 F : World} {gb : Nat} {ins : Int} (hbox : F.heap[gb]? = some (.cells #[.int .i64 ins, .slice none 0 0, .slice none 0 0, .slice none 0 0] 30 (0, 0))) (hg : w1.heap.size ≤ gb) (hB : Below w1.heap.size w1 F) : MidJ w1 gb ins F :=
 ⟨fun _ => .slice none 0 0, ⟨hbox, ⟨rfl, .inl ⟨rfl, rfl⟩⟩, ⟨rfl, .inl ⟨rfl, rfl⟩⟩, ⟨rfl, .inl ⟨rfl, rfl⟩⟩, fun i j k h1 _ => (by cases h1), fun i e => (by cases e), hg, fun b hb => (by cases hb), fun i k hk => (by cases hk)⟩, hB⟩
theorem joint_doc (B0 : Nat) (w : World) (SA SB : GrS) (A B : GrD) (hA : GrAt B0 w SA A) (hB : GrAt B0 w SB B) (hB0 : B0 ≤ w.heap.size) (okA : OkB A) (okB : OkB B) :
  Calls Try.prog 26 #[.agg (SA.cells A), .agg (SB.cells B)] w fun e w' => JnP w (joinG A B) e w' := by
 have HA := hidden hA
 have HB := hidden hB
 have HOA := hidden okA
 have HOB := hidden okB
 clear hA hB okA okB
 unfold GrS.cells
 go_enter Try.func26, Try.ntmps26
 go_upto_region 1 with fail
 obtain ⟨o1, ho1⟩ : ∃ o, o = Obj.cells #[.int .i64 A.ins, .slice SA.a1 A.lats.length SA.c1, .slice SA.a2 A.ands.length SA.c2, .slice SA.a3 A.outs.length SA.c3] 30 (0, 0) := ⟨_, rfl⟩
 obtain ⟨o2, ho2⟩ : ∃ o, o = Obj.cells #[.int .i64 B.ins, .slice SB.a1 B.lats.length SB.c1, .slice SB.a2 B.ands.length SB.c2, .slice SB.a3 B.outs.length SB.c3] 30 (0, 0) := ⟨_, rfl⟩
 obtain ⟨o3, ho3⟩ : ∃ o, o = Obj.cells #[.int .i64 0, .slice none 0 0, .slice none 0 0, .slice none 0 0] 30 (0, 0) := ⟨_, rfl⟩
 rw [← ho1, ← ho2, ← ho3]
 have s1 : (w.alloc o1).heap.size = w.heap.size + 1 := by simp
 have b1 := heap_new w o1
 have B1 : Below w.heap.size w (w.alloc o1) := (Below.refl _ _).alloc (Nat.le_refl _) _
 generalize w.alloc o1 = w1 at *
 have s2 : (w1.alloc o2).heap.size = w1.heap.size + 1 := by simp
 have b2 := heap_new w1 o2
 have B2 : Below w1.heap.size w1 (w1.alloc o2) := (Below.refl _ _).alloc (Nat.le_refl _) _
 generalize w1.alloc o2 = w2 at *
 have s3 : (w2.alloc o3).heap.size = w2.heap.size + 1 := by simp
 have b3 := heap_new w2 o3
 have B3 : Below w2.heap.size w2 (w2.alloc o3) := (Below.refl _ _).alloc (Nat.le_refl _) _
 generalize w2.alloc o3 = W at *
 obtain ⟨pa, h5⟩ : ∃ x, x = w.heap.size := ⟨_, rfl⟩
 obtain ⟨pb, h6⟩ : ∃ x, x = w.heap.size + 1 := ⟨_, rfl⟩
 obtain ⟨rb, h7⟩ : ∃ x, x = w.heap.size + 1 + 1 := ⟨_, rfl⟩
 have d5 : W.heap[pa]? = some o1 := (B3.block pa (by omega)).trans ((B2.block pa (by omega)).trans (by rw [h5]; exact b1))
 have d6 : W.heap[pb]? = some o2 := (B3.block pb (by omega)).trans (by rw [h6, ← s1]; exact b2)
 have d7 : W.heap[rb]? = some o3 := by rw [h7, ← s1, ← s2]; exact b3
 rw [ho1] at d5
 rw [ho2] at d6
 rw [ho3] at d7
 have HRB := hidden d7
 have hrl : rb < W.heap.size := by omega
 have hwr : w.heap.size ≤ rb := by omega
 have HXA : Hid (BoxAt W pa SA A) := ⟨by omega, (cell_of_row _ _ 0 _ _ (0, 0) d5).trans rfl, (cell_of_row _ _ 1 _ _ (0, 0) d5).trans rfl, (cell_of_row _ _ 2 _ _ (0, 0) d5).trans rfl, (cell_of_row _ _ 3 _ _ (0, 0) d5).trans rfl⟩
 have HXB : Hid (BoxAt W pb SB B) := ⟨by omega, (cell_of_row _ _ 0 _ _ (0, 0) d6).trans rfl, (cell_of_row _ _ 1 _ _ (0, 0) d6).trans rfl, (cell_of_row _ _ 2 _ _ (0, 0) d6).trans rfl, (cell_of_row _ _ 3 _ _ (0, 0) d6).trans rfl⟩
 have HBW0 : Hid (Below w.heap.size w W) := B1.trans ((B2.trans (B3.mono (by omega))).mono (by omega))
 rw [← h7, ← h6, ← h5]
 have hws : w.heap.size ≤ W.heap.size := HBW0.out.size
 clear b1 b2 b3 B1 B2 B3 s1 s2 s3 h5 h6 h7 d5 d6 d7 ho1 ho2 ho3
 have gS0 := HXA.out.c0
 go_upto_region 2 with fail
 have hm := tk_nil (w1 := W) (F := W.alloc (.cells #[.int .i64 A.ins, .slice none 0 0, .slice none 0 0, .slice none 0 0] 30 (0, 0))) (gb := W.heap.size) (ins := A.ins) (heap_new _ _) (Nat.le_refl _) ((Below.refl _ _).alloc (Nat.le_refl _) _)
 generalize hV0 : World.alloc W _ = V0 at hm ⊢
 obtain ⟨gb, hgb⟩ : ∃ x, x = W.heap.size := ⟨_, rfl⟩
 rw [← hgb]
 rw [← hgb] at hm
 obtain ⟨u0, ht0, hb0⟩ := hm
 obtain ⟨C, HC⟩ : ∃ x, Hid (x = W.heap.size) := ⟨_, rfl⟩
 rw [← HC.out] at ht0 hb0
 clear hgb
 have HQv0 := hidden hb0
 obtain ⟨L0, HL0⟩ : ∃ z : List LatD, Hid (z = []) := ⟨_, rfl⟩
 obtain ⟨N0, HN0⟩ : ∃ z : List AndD, Hid (z = []) := ⟨_, rfl⟩
 obtain ⟨O0, HO0'⟩ : ∃ z : List Int, Hid (z = []) := ⟨_, rfl⟩
 have hL0 : L0.length ≤ 0 := by rw [HL0.out]; decide
 have hN0 : N0.length ≤ 0 := by rw [HN0.out]; decide
 have hO0 : O0.length ≤ 0 := by rw [HO0'.out]; decide
 have HTv0 : Hid (∃ u', TkP C V0 gb A.ins u' (⟨A.ins, L0, N0, O0⟩) []) := by rw [HL0.out, HN0.out, HO0'.out]; exact ⟨u0, ht0⟩
 have hpa : pa < C := by rw [HC.out]; exact HXA.out.lt
 have hpb : pb < C := by rw [HC.out]; exact HXB.out.lt
 have hBC : B0 ≤ C := by rw [HC.out]; exact Nat.le_trans hB0 hws
 have HGA : Hid (∀ w', Below C W w' → GrAt C w' SA A) := fun w' hb => ((HA.out.to (HBW0.out.mono hB0)).mono hBC).to hb
 have HGB : Hid (∀ w', Below C W w' → GrAt C w' SB B) := fun w' hb => ((HB.out.to (HBW0.out.mono hB0)).mono hBC).to hb
 clear ht0 hb0 hV0 gS0
 have gS : V0.cell? ⟨pa, 1, none⟩ = some (.slice SA.a1 A.lats.length SA.c1) := (HXA.out.to hpa HQv0.out).c1
 go_wp2_with fail
 clear gS
 go_loopw [6] (fun i' w' => ∃ (i : Nat), i ≤ A.lats.length ∧ i' = .int .i64 i ∧ Hid (∃ u', TkP C w' gb A.ins u' (⟨A.ins, L0 ++ (A.lats.take (i)).map (mvL A 0 B.lats.length), N0, O0⟩) []) ∧ Hid (Below C W w')) (fun i' _ => A.lats.length - (intOf i').toNat)
 case atStart => exact ⟨0, Nat.zero_le _, rfl, by show ∃ u', TkP _ _ _ _ _ _ _; simpa using HTv0.out, HQv0.out⟩
 case round =>
  clear HTv0 HQv0
  obtain ⟨i, hi, rfl, HTk, HQ0⟩ := hrel
  have gS : wr.cell? ⟨pa, 1, none⟩ = some (.slice SA.a1 A.lats.length SA.c1) := (HXA.out.to hpa HQ0.out).c1
  by_cases hlt : i < A.lats.length
  ·obtain ⟨u, ht⟩ := HTk.out
   have HTd : Hid (TkP C wr.drew gb A.ins u (⟨A.ins, L0 ++ (A.lats.take (i)).map (mvL A 0 B.lats.length), N0, O0⟩) []) := ht.rest (Below.drew (Below.refl _ _))
   have hQd : Below C W wr.drew := Below.drew HQ0.out
   clear ht HTk
   have hltI : (i : Int) < (A.lats.length : Int) := by omega
   obtain ⟨d, hd⟩ := getElem_lt hlt
   have HDI := hidden hd
   have hpl : A.lats.length ≤ 60000 := by have := HOA.out.l1; have := HOA.out.a1; have := HOA.out.o1; omega
   obtain ⟨b, o, ea, hlb, hc⟩ := (HGA.out W (Below.refl _ _)).l.el hd
   have hdl : 0 ≤ d.next ∧ d.next ≤ 4000000 := by have := HOA.out.latL d (List.mem_of_getElem? hd); omega
   obtain ⟨nx, it⟩ := d
   have y0 : W.cell? ⟨b, o + i * 2, none⟩ = some (.int .i64 nx) := hc 0 _ rfl
   have y1 : W.cell? ⟨b, o + i * 2 + 1, none⟩ = some (.bool it) := hc 1 _ rfl
   dsimp only at hdl
   have e3 : IntKind.i64.wrap ((i : Int) + 1) = (i : Int) + 1 := wrapI _ (by omega) (by omega)
   obtain ⟨il, hi', hz', hs', hby'⟩ := info_lat
   have HI := hidden hi'
   have HZ := hidden hz'
   have HSI := hidden hs'
   have HBY := hidden hby'
   clear hi' hz' hs' hby'
   have K1 : Hid (∀ w', Below C W w' → (fun w' => w'.cell? ⟨b, o + i * 2, none⟩ = some (.int .i64 nx) ∧ w'.cell? ⟨b, o + i * 2 + 1, none⟩ = some (.bool it) ∧ w'.cell? ⟨pa, 0, none⟩ = some (.int .i64 A.ins) ∧ w'.cell? ⟨pa, 1, none⟩ = some (.slice (some ⟨b, o, none⟩) A.lats.length SA.c1) ∧ w'.cell? ⟨pa, 2, none⟩ = some (.slice SA.a2 A.ands.length SA.c2) ∧ w'.cell? ⟨pa, 3, none⟩ = some (.slice SA.a3 A.outs.length SA.c3) ∧ w'.cell? ⟨pb, 0, none⟩ = some (.int .i64 B.ins) ∧ w'.cell? ⟨pb, 1, none⟩ = some (.slice SB.a1 B.lats.length SB.c1) ∧ w'.cell? ⟨pb, 2, none⟩ = some (.slice SB.a2 B.ands.length SB.c2) ∧ w'.cell? ⟨pb, 3, none⟩ = some (.slice SB.a3 B.outs.length SB.c3)) w') := fun w' hb => by
    have ha := HXA.out.to hpa hb
    have hb' := HXB.out.to hpb hb
    exact ⟨(hb.cell (p := ⟨b, o + i * 2, none⟩) hlb).trans y0, (hb.cell (p := ⟨b, o + i * 2 + 1, none⟩) hlb).trans y1, ha.c0, by rw [← ea]; exact ha.c1, ha.c2, ha.c3, hb'.c0, hb'.c1, hb'.c2, hb'.c3⟩
   have MVC : Hid (∀ (l : Int) (w' : World), 0 ≤ l ∧ l ≤ 4000000 → Calls Try.prog 50 #[.agg #[.int .i64 A.ins, .slice (some ⟨b, o, none⟩) A.lats.length SA.c1, .slice SA.a2 A.ands.length SA.c2, .slice SA.a3 A.outs.length SA.c3], .agg #[.int .i64 B.ins, .slice SB.a1 B.lats.length SB.c1, .slice SB.a2 B.ands.length SB.c2, .slice SB.a3 B.outs.length SB.c3], .int .i64 l] w' fun e w'' => e = .returned (.int .i64 (mvF A 0 B.lats.length l)) ∧ Below w'.heap.size w' w'') := fun l w' hl => by
    rw [← ea]; exact movedOne_doc w' SA SB A B HOA.out HOB.out l hl
   obtain ⟨uf, HUF⟩ : ∃ x, Hid (x = u 1) := ⟨_, rfl⟩
   obtain ⟨fn, HFN⟩ : ∃ x : Nat, Hid (x = (⟨A.ins, L0 ++ (A.lats.take (i)).map (mvL A 0 B.lats.length), N0, O0⟩ : GrD).lats.length) := ⟨_, rfl⟩
   have gd : wr.drew.cell? ⟨gb, 1, none⟩ = some uf := by rw [HUF.out]; exact HTd.out.fld 1 (by decide)
   have HFAR : Hid (uf.ownBlock ≠ some gb) := by rw [HUF.out]; exact HTd.out.nb 1
   have hfn : fn ≤ 400000 := by
    rw [HFN.out]
    simp only [List.length_append, List.length_map, List.length_take]
    have := hL0
    omega
   have hm1 : fn + 1 ≤ maxLen := by simp only [maxLen]; omega
   have hm2 : (fn + 1) * 16 ≤ 140737488355328 := by omega
   rw [ea] at gS
   clear hd hc hlb ea y0 y1
   go_upto_region 5 with fail
   clear gS
   refine wp_region_noPanic ?_
   refine wp_region_held_drew (S := (fun w' => w'.cell? ⟨b, o + i * 2, none⟩ = some (.int .i64 nx) ∧ w'.cell? ⟨b, o + i * 2 + 1, none⟩ = some (.bool it) ∧ w'.cell? ⟨pa, 0, none⟩ = some (.int .i64 A.ins) ∧ w'.cell? ⟨pa, 1, none⟩ = some (.slice (some ⟨b, o, none⟩) A.lats.length SA.c1) ∧ w'.cell? ⟨pa, 2, none⟩ = some (.slice SA.a2 A.ands.length SA.c2) ∧ w'.cell? ⟨pa, 3, none⟩ = some (.slice SA.a3 A.outs.length SA.c3) ∧ w'.cell? ⟨pb, 0, none⟩ = some (.int .i64 B.ins) ∧ w'.cell? ⟨pb, 1, none⟩ = some (.slice SB.a1 B.lats.length SB.c1) ∧ w'.cell? ⟨pb, 2, none⟩ = some (.slice SB.a2 B.ands.length SB.c2) ∧ w'.cell? ⟨pb, 3, none⟩ = some (.slice SB.a3 B.outs.length SB.c3))) (by kernel_rfl) (by first | exact K1.out _ hQd | first | assumption | exact K1.out _ (by assumption)) (fun hHeld => ?_)
   refine tk 0 ?_
   refine tk 2 ?_
   refine tk 3 ?_
   refine tk 4 ?_
   refine tk 5 ?_
   refine tk 6 ?_
   refine tk 7 ?_
   refine tk 8 ?_
   refine tk 9 ?_
   refine tk 11 ?_
   refine tk 12 ?_
   refine tk 13 ?_
   refine tk 14 ?_
   refine tk 15 ?_
   refine tk 16 ?_
   refine wpAnyH_ready (rs := [1, 10]) (by kernel_rfl) (by simp) ?_
   refine AllReadyH.cons (o := _) rfl (fun K hK => ?_) ?_
   ·(try simp only [gA, gB, gC])
    go_simp
    refine hK.out _ _ (by first | assumption | exact K1.out _ (by assumption)) (fun hHeld1 => ?_)
    clear hK K
    (try simp only [Act.put]); (try simp only [sA]); (try simp only [sB, sC])
    refine wpAnyH_ready (rs := [10]) (by kernel_rfl) (by simp) ?_
    refine AllReadyH.cons (o := _) rfl (fun K hK => ?_) AllReadyH.nil
    (try simp only [gA, gB, gC])
    go_simp
    go_at_call 50
    refine (MVC.out nx _ hdl).mono ?_
    rintro e v1 ⟨rfl, hbx1⟩
    have hQ1 : Below C W v1 := hQd.trans (hbx1.mono HTd.out.size)
    have HT1 := hidden (HTd.out.rest hbx1)
    have gv1 : v1.cell? ⟨gb, 1, none⟩ = some uf := by rw [HUF.out]; exact HT1.out.fld 1 (by decide)
    have hgv1 : gb < v1.heap.size := HT1.out.lt
    clear hbx1
    go_wp2_with fail
    refine hK.out _ _ (by first | assumption | exact K1.out _ (by assumption)) (fun hHeld10 => ?_)
    clear hK K
    (try simp only [Act.put]); (try simp only [sA]); (try simp only [sB, sC])
    refine tk 17 ?_
    refine wpAnyH_ready (rs := [18]) (by kernel_rfl) (by simp) ?_
    refine AllReadyH.cons (o := _) rfl (fun K hK => ?_) AllReadyH.nil
    (try simp only [gA, gB, gC])
    go_simp
    refine hK.out _ _ (by first | assumption | exact K1.out _ (hQ1.alloc HT1.out.size _)) (fun hHeld18 => ?_)
    clear hK K
    (try simp only [Act.put]); (try simp only [sA]); (try simp only [sB, sC])
    refine wpAnyH_ready (rs := [19]) (by kernel_rfl) (by simp) ?_
    refine AllReadyH.cons (o := _) rfl (fun K hK => ?_) AllReadyH.nil
    have HOW : Hid (v1.ownsRow C 55 2 uf fn ((⟨A.ins, L0 ++ (A.lats.take (i)).map (mvL A 0 B.lats.length), N0, O0⟩ : GrD).lats.flatMap LatD.cells)) := by
     have := HT1.out.l
     rw [← HUF.out, ← HFN.out] at this
     exact this
    have hm3 : C ≤ (v1.alloc (.cells #[.int .i64 (mvF A 0 B.lats.length nx), .bool it] 55)).heap.size := by have := HT1.out.size; simp; omega
    refine step_append_lies _ rfl (.tmp 23) (.tmp 40) 27 rfl C 55 il _ 2 16 Try.underlying27 HI.out HZ.out HSI.out HBY.out rfl (by decide) uf fn _ rfl (HOW.out.alloc _) ⟨v1.heap.size, 0, none⟩ 1 1 [.int .i64 (mvF A 0 B.lats.length nx), .bool it] rfl rfl (World.news_of_block (heap_new _ _)) (by simp [Value.oneCell']) (by decide) hm1 hm2 hm3 _ rfl ?_
    intro g cap w6 hown hgrow hat hlt6
    have hg6 := grown_trn (World.grownBy_alloc v1 _ _) hgrow
    have hc6 : w6.cell? ⟨gb, 1, none⟩ = some uf := (hg6.cell_far ⟨gb, 1, none⟩ hgv1 (fun e => HFAR.out e.symm)).trans gv1
    have hf6 : w6.frozen? ⟨gb, 1, none⟩ = false := (hg6.frozen_far ⟨gb, 1, none⟩ hgv1 (fun e => HFAR.out e.symm)).trans (frozen_of_row _ _ _ _ _ HT1.out.box)
    have hQ6 : Below C W w6 := hQ1.trans ⟨hg6.os, hg6.tape, hg6.output, hg6.size, fun k hk => hg6.block k (Nat.lt_of_lt_of_le hk HT1.out.size) (fun e => by have := (HOW.out.lt k e.symm).1; omega)⟩
    refine hK.out _ _ (by first | assumption | exact K1.out _ hQ6) (fun hHeldp => ?_)
    clear hK K
    (try simp only [Act.put]); (try simp only [sA]); (try simp only [sB, sC])
    refine tk 20 ?_
    refine wpAnyH_ready (rs := [21]) (by kernel_rfl) (by simp) ?_
    refine AllReadyH.cons (o := _) rfl (fun K hK => ?_) AllReadyH.nil
    (try simp only [gA, gB, gC])
    go_simp
    refine hK.out _ _ (by first | assumption | exact K1.out _ (hQ6.trans (below_of (gset _ _ _ _) HT1.out.base (Nat.le_trans HT1.out.size hg6.size)))) (fun hHelds => ?_)
    clear hK K
    (try simp only [Act.put]); (try simp only [sA]); (try simp only [sB, sC])
    refine wpAnyH_done (by kernel_rfl) ?_ _
    refine NoPanic.normal ?_
    obtain ⟨t1, t2, -⟩ := HT1.out.pushl ⟨mvF A 0 B.lats.length nx, it⟩ (g := g) (cap := cap) (by rw [← HUF.out]; exact hg6) (by rw [← HFN.out]; exact hown) (by
     rw [← HUF.out]
     rcases hat with h | h
     ·exact .inl h
     ·refine .inr ?_
      simp at h
      omega)
    rw [← HFN.out] at t1 t2
    have HQ9 : Hid (Below C W (w6.setCell ⟨gb, 1, none⟩ (.slice (some ⟨g, 0, none⟩) (fn + 1) cap))) := hQ1.trans t2
    have HT9 := hidden t1
    clear t1 t2
    generalize World.setCell w6 _ _ = w9 at HT9 HQ9 ⊢
    have HT9' : Hid (∃ u', TkP C w9 gb A.ins u' (⟨A.ins, L0 ++ (A.lats.take (i + 1)).map (mvL A 0 B.lats.length), N0, O0⟩) []) := by
     show ∃ u', TkP _ _ _ _ _ _ _
     rw [take_next _ i _ HDI.out, List.map_append, ← List.append_assoc]
     exact ⟨_, HT9.out⟩
    clear HT9 hown hgrow hat hlt6 hg6 hc6 hf6 K1 MVC HOW hm3 hQd HTd hQ6 hQ1 HT1 gv1 hgv1 gd
    go_wp2
    go_roundw
    case measure => simp [intOf]; omega
    case rel => exact ⟨i + 1, by omega, by simp, HT9'.out, HQ9.out⟩
   refine AllReadyH.cons (o := _) rfl (fun K hK => ?_) AllReadyH.nil
   (try simp only [gA, gB, gC])
   go_simp
   go_at_call 50
   refine (MVC.out nx _ hdl).mono ?_
   rintro e v1 ⟨rfl, hbx1⟩
   have hQ1 : Below C W v1 := hQd.trans (hbx1.mono HTd.out.size)
   have HT1 := hidden (HTd.out.rest hbx1)
   have gv1 : v1.cell? ⟨gb, 1, none⟩ = some uf := by rw [HUF.out]; exact HT1.out.fld 1 (by decide)
   have hgv1 : gb < v1.heap.size := HT1.out.lt
   clear hbx1
   go_wp2_with fail
   refine hK.out _ _ (by first | assumption | exact K1.out _ (by assumption)) (fun hHeld10 => ?_)
   clear hK K
   (try simp only [Act.put]); (try simp only [sA]); (try simp only [sB, sC])
   refine tk 17 ?_
   refine wpAnyH_ready (rs := [1, 18]) (by kernel_rfl) (by simp) ?_
   refine AllReadyH.cons (o := _) rfl (fun K hK => ?_) ?_
   ·(try simp only [gA, gB, gC])
    go_simp
    refine hK.out _ _ (by first | assumption | exact K1.out _ (by assumption)) (fun hHeld1 => ?_)
    clear hK K
    (try simp only [Act.put]); (try simp only [sA]); (try simp only [sB, sC])
    refine wpAnyH_ready (rs := [18]) (by kernel_rfl) (by simp) ?_
    refine AllReadyH.cons (o := _) rfl (fun K hK => ?_) AllReadyH.nil
    (try simp only [gA, gB, gC])
    go_simp
    refine hK.out _ _ (by first | assumption | exact K1.out _ (hQ1.alloc HT1.out.size _)) (fun hHeld18 => ?_)
    clear hK K
    (try simp only [Act.put]); (try simp only [sA]); (try simp only [sB, sC])
    refine wpAnyH_ready (rs := [19]) (by kernel_rfl) (by simp) ?_
    refine AllReadyH.cons (o := _) rfl (fun K hK => ?_) AllReadyH.nil
    have HOW : Hid (v1.ownsRow C 55 2 uf fn ((⟨A.ins, L0 ++ (A.lats.take (i)).map (mvL A 0 B.lats.length), N0, O0⟩ : GrD).lats.flatMap LatD.cells)) := by
     have := HT1.out.l
     rw [← HUF.out, ← HFN.out] at this
     exact this
    have hm3 : C ≤ (v1.alloc (.cells #[.int .i64 (mvF A 0 B.lats.length nx), .bool it] 55)).heap.size := by have := HT1.out.size; simp; omega
    refine step_append_lies _ rfl (.tmp 23) (.tmp 40) 27 rfl C 55 il _ 2 16 Try.underlying27 HI.out HZ.out HSI.out HBY.out rfl (by decide) uf fn _ rfl (HOW.out.alloc _) ⟨v1.heap.size, 0, none⟩ 1 1 [.int .i64 (mvF A 0 B.lats.length nx), .bool it] rfl rfl (World.news_of_block (heap_new _ _)) (by simp [Value.oneCell']) (by decide) hm1 hm2 hm3 _ rfl ?_
    intro g cap w6 hown hgrow hat hlt6
    have hg6 := grown_trn (World.grownBy_alloc v1 _ _) hgrow
    have hc6 : w6.cell? ⟨gb, 1, none⟩ = some uf := (hg6.cell_far ⟨gb, 1, none⟩ hgv1 (fun e => HFAR.out e.symm)).trans gv1
    have hf6 : w6.frozen? ⟨gb, 1, none⟩ = false := (hg6.frozen_far ⟨gb, 1, none⟩ hgv1 (fun e => HFAR.out e.symm)).trans (frozen_of_row _ _ _ _ _ HT1.out.box)
    have hQ6 : Below C W w6 := hQ1.trans ⟨hg6.os, hg6.tape, hg6.output, hg6.size, fun k hk => hg6.block k (Nat.lt_of_lt_of_le hk HT1.out.size) (fun e => by have := (HOW.out.lt k e.symm).1; omega)⟩
    refine hK.out _ _ (by first | assumption | exact K1.out _ hQ6) (fun hHeldp => ?_)
    clear hK K
    (try simp only [Act.put]); (try simp only [sA]); (try simp only [sB, sC])
    refine tk 20 ?_
    refine wpAnyH_ready (rs := [21]) (by kernel_rfl) (by simp) ?_
    refine AllReadyH.cons (o := _) rfl (fun K hK => ?_) AllReadyH.nil
    (try simp only [gA, gB, gC])
    go_simp
    refine hK.out _ _ (by first | assumption | exact K1.out _ (hQ6.trans (below_of (gset _ _ _ _) HT1.out.base (Nat.le_trans HT1.out.size hg6.size)))) (fun hHelds => ?_)
    clear hK K
    (try simp only [Act.put]); (try simp only [sA]); (try simp only [sB, sC])
    refine wpAnyH_done (by kernel_rfl) ?_ _
    refine NoPanic.normal ?_
    obtain ⟨t1, t2, -⟩ := HT1.out.pushl ⟨mvF A 0 B.lats.length nx, it⟩ (g := g) (cap := cap) (by rw [← HUF.out]; exact hg6) (by rw [← HFN.out]; exact hown) (by
     rw [← HUF.out]
     rcases hat with h | h
     ·exact .inl h
     ·refine .inr ?_
      simp at h
      omega)
    rw [← HFN.out] at t1 t2
    have HQ9 : Hid (Below C W (w6.setCell ⟨gb, 1, none⟩ (.slice (some ⟨g, 0, none⟩) (fn + 1) cap))) := hQ1.trans t2
    have HT9 := hidden t1
    clear t1 t2
    generalize World.setCell w6 _ _ = w9 at HT9 HQ9 ⊢
    have HT9' : Hid (∃ u', TkP C w9 gb A.ins u' (⟨A.ins, L0 ++ (A.lats.take (i + 1)).map (mvL A 0 B.lats.length), N0, O0⟩) []) := by
     show ∃ u', TkP _ _ _ _ _ _ _
     rw [take_next _ i _ HDI.out, List.map_append, ← List.append_assoc]
     exact ⟨_, HT9.out⟩
    clear HT9 hown hgrow hat hlt6 hg6 hc6 hf6 K1 MVC HOW hm3 hQd HTd hQ6 hQ1 HT1 gv1 hgv1 gd
    go_wp2
    go_roundw
    case measure => simp [intOf]; omega
    case rel => exact ⟨i + 1, by omega, by simp, HT9'.out, HQ9.out⟩
   refine AllReadyH.cons (o := _) rfl (fun K hK => ?_) AllReadyH.nil
   (try simp only [gA, gB, gC])
   go_simp
   refine hK.out _ _ (by first | assumption | exact K1.out _ (hQ1.alloc HT1.out.size _)) (fun hHeld18 => ?_)
   clear hK K
   (try simp only [Act.put]); (try simp only [sA]); (try simp only [sB, sC])
   refine wpAnyH_ready (rs := [1]) (by kernel_rfl) (by simp) ?_
   refine AllReadyH.cons (o := _) rfl (fun K hK => ?_) AllReadyH.nil
   (try simp only [gA, gB, gC])
   go_simp
   refine hK.out _ _ (by first | assumption | exact K1.out _ (by assumption)) (fun hHeld1 => ?_)
   clear hK K
   (try simp only [Act.put]); (try simp only [sA]); (try simp only [sB, sC])
   refine wpAnyH_ready (rs := [19]) (by kernel_rfl) (by simp) ?_
   refine AllReadyH.cons (o := _) rfl (fun K hK => ?_) AllReadyH.nil
   have HOW : Hid (v1.ownsRow C 55 2 uf fn ((⟨A.ins, L0 ++ (A.lats.take (i)).map (mvL A 0 B.lats.length), N0, O0⟩ : GrD).lats.flatMap LatD.cells)) := by
    have := HT1.out.l
    rw [← HUF.out, ← HFN.out] at this
    exact this
   have hm3 : C ≤ (v1.alloc (.cells #[.int .i64 (mvF A 0 B.lats.length nx), .bool it] 55)).heap.size := by have := HT1.out.size; simp; omega
   refine step_append_lies _ rfl (.tmp 23) (.tmp 40) 27 rfl C 55 il _ 2 16 Try.underlying27 HI.out HZ.out HSI.out HBY.out rfl (by decide) uf fn _ rfl (HOW.out.alloc _) ⟨v1.heap.size, 0, none⟩ 1 1 [.int .i64 (mvF A 0 B.lats.length nx), .bool it] rfl rfl (World.news_of_block (heap_new _ _)) (by simp [Value.oneCell']) (by decide) hm1 hm2 hm3 _ rfl ?_
   intro g cap w6 hown hgrow hat hlt6
   have hg6 := grown_trn (World.grownBy_alloc v1 _ _) hgrow
   have hc6 : w6.cell? ⟨gb, 1, none⟩ = some uf := (hg6.cell_far ⟨gb, 1, none⟩ hgv1 (fun e => HFAR.out e.symm)).trans gv1
   have hf6 : w6.frozen? ⟨gb, 1, none⟩ = false := (hg6.frozen_far ⟨gb, 1, none⟩ hgv1 (fun e => HFAR.out e.symm)).trans (frozen_of_row _ _ _ _ _ HT1.out.box)
   have hQ6 : Below C W w6 := hQ1.trans ⟨hg6.os, hg6.tape, hg6.output, hg6.size, fun k hk => hg6.block k (Nat.lt_of_lt_of_le hk HT1.out.size) (fun e => by have := (HOW.out.lt k e.symm).1; omega)⟩
   refine hK.out _ _ (by first | assumption | exact K1.out _ hQ6) (fun hHeldp => ?_)
   clear hK K
   (try simp only [Act.put]); (try simp only [sA]); (try simp only [sB, sC])
   refine tk 20 ?_
   refine wpAnyH_ready (rs := [21]) (by kernel_rfl) (by simp) ?_
   refine AllReadyH.cons (o := _) rfl (fun K hK => ?_) AllReadyH.nil
   (try simp only [gA, gB, gC])
   go_simp
   refine hK.out _ _ (by first | assumption | exact K1.out _ (hQ6.trans (below_of (gset _ _ _ _) HT1.out.base (Nat.le_trans HT1.out.size hg6.size)))) (fun hHelds => ?_)
   clear hK K
   (try simp only [Act.put]); (try simp only [sA]); (try simp only [sB, sC])
   refine wpAnyH_done (by kernel_rfl) ?_ _
   refine NoPanic.normal ?_
   obtain ⟨t1, t2, -⟩ := HT1.out.pushl ⟨mvF A 0 B.lats.length nx, it⟩ (g := g) (cap := cap) (by rw [← HUF.out]; exact hg6) (by rw [← HFN.out]; exact hown) (by
    rw [← HUF.out]
    rcases hat with h | h
    ·exact .inl h
    ·refine .inr ?_
     simp at h
     omega)
   rw [← HFN.out] at t1 t2
   have HQ9 : Hid (Below C W (w6.setCell ⟨gb, 1, none⟩ (.slice (some ⟨g, 0, none⟩) (fn + 1) cap))) := hQ1.trans t2
   have HT9 := hidden t1
   clear t1 t2
   generalize World.setCell w6 _ _ = w9 at HT9 HQ9 ⊢
   have HT9' : Hid (∃ u', TkP C w9 gb A.ins u' (⟨A.ins, L0 ++ (A.lats.take (i + 1)).map (mvL A 0 B.lats.length), N0, O0⟩) []) := by
    show ∃ u', TkP _ _ _ _ _ _ _
    rw [take_next _ i _ HDI.out, List.map_append, ← List.append_assoc]
    exact ⟨_, HT9.out⟩
   clear HT9 hown hgrow hat hlt6 hg6 hc6 hf6 K1 MVC HOW hm3 hQd HTd hQ6 hQ1 HT1 gv1 hgv1 gd
   go_wp2
   go_roundw
   case measure => simp [intOf]; omega
   case rel => exact ⟨i + 1, by omega, by simp, HT9'.out, HQ9.out⟩
  ·have hge : ¬ ((i : Int) < (A.lats.length : Int)) := by omega
   obtain ⟨L1, HL1⟩ : ∃ z, Hid (z = L0 ++ A.lats.map (mvL A 0 B.lats.length)) := ⟨_, rfl⟩
   have hL1 : L1.length ≤ 60000 := by
    rw [HL1.out]
    simp only [List.length_append, List.length_map]
    have := hL0
    have := HOA.out.l1; have := HOA.out.a1; have := HOA.out.o1
    omega
   have HTv1 : Hid (∃ u', TkP C wr gb A.ins u' (⟨A.ins, L1, N0, O0⟩) []) := by
    show ∃ u', TkP _ _ _ _ _ _ _
    rw [HL1.out]
    have := HTk.out
    rw [List.take_of_length_le (by omega)] at this
    exact this
   have HQv1 := HQ0
   clear HTk HQ0
   obtain ⟨V1, hV1⟩ : ∃ z, z = wr := ⟨_, rfl⟩
   rw [← hV1] at HTv1 HQv1 gS ⊢
   clear hV1
   have gS : V1.cell? ⟨pb, 1, none⟩ = some (.slice SB.a1 B.lats.length SB.c1) := (HXB.out.to hpb HQv1.out).c1
   go_wp2_with fail
   clear gS
   go_loopw [7] (fun i' w' => ∃ (i : Nat), i ≤ B.lats.length ∧ i' = .int .i64 i ∧ Hid (∃ u', TkP C w' gb A.ins u' (⟨A.ins, L1 ++ (B.lats.take (i)).map (mvL B A.lats.length (A.lats.length + A.ands.length)), N0, O0⟩) []) ∧ Hid (Below C W w')) (fun i' _ => B.lats.length - (intOf i').toNat)
   case atStart => exact ⟨0, Nat.zero_le _, rfl, by show ∃ u', TkP _ _ _ _ _ _ _; simpa using HTv1.out, HQv1.out⟩
   case round =>
    clear HTv1 HQv1
    obtain ⟨i, hi, rfl, HTk, HQ0⟩ := hrel
    have gS : wr.cell? ⟨pb, 1, none⟩ = some (.slice SB.a1 B.lats.length SB.c1) := (HXB.out.to hpb HQ0.out).c1
    by_cases hlt : i < B.lats.length
    ·obtain ⟨u, ht⟩ := HTk.out
     have HTd : Hid (TkP C wr.drew gb A.ins u (⟨A.ins, L1 ++ (B.lats.take (i)).map (mvL B A.lats.length (A.lats.length + A.ands.length)), N0, O0⟩) []) := ht.rest (Below.drew (Below.refl _ _))
     have hQd : Below C W wr.drew := Below.drew HQ0.out
     clear ht HTk
     have hltI : (i : Int) < (B.lats.length : Int) := by omega
     obtain ⟨d, hd⟩ := getElem_lt hlt
     have HDI := hidden hd
     have hpl : B.lats.length ≤ 60000 := by have := HOB.out.l1; have := HOB.out.a1; have := HOB.out.o1; omega
     obtain ⟨b, o, ea, hlb, hc⟩ := (HGB.out W (Below.refl _ _)).l.el hd
     have hdl : 0 ≤ d.next ∧ d.next ≤ 4000000 := by have := HOB.out.latL d (List.mem_of_getElem? hd); omega
     obtain ⟨nx, it⟩ := d
     have y0 : W.cell? ⟨b, o + i * 2, none⟩ = some (.int .i64 nx) := hc 0 _ rfl
     have y1 : W.cell? ⟨b, o + i * 2 + 1, none⟩ = some (.bool it) := hc 1 _ rfl
     dsimp only at hdl
     have e3 : IntKind.i64.wrap ((i : Int) + 1) = (i : Int) + 1 := wrapI _ (by omega) (by omega)
     obtain ⟨il, hi', hz', hs', hby'⟩ := info_lat
     have HI := hidden hi'
     have HZ := hidden hz'
     have HSI := hidden hs'
     have HBY := hidden hby'
     clear hi' hz' hs' hby'
     have K1 : Hid (∀ w', Below C W w' → (fun w' => w'.cell? ⟨b, o + i * 2, none⟩ = some (.int .i64 nx) ∧ w'.cell? ⟨b, o + i * 2 + 1, none⟩ = some (.bool it) ∧ w'.cell? ⟨pa, 0, none⟩ = some (.int .i64 A.ins) ∧ w'.cell? ⟨pa, 1, none⟩ = some (.slice SA.a1 A.lats.length SA.c1) ∧ w'.cell? ⟨pa, 2, none⟩ = some (.slice SA.a2 A.ands.length SA.c2) ∧ w'.cell? ⟨pa, 3, none⟩ = some (.slice SA.a3 A.outs.length SA.c3) ∧ w'.cell? ⟨pb, 0, none⟩ = some (.int .i64 B.ins) ∧ w'.cell? ⟨pb, 1, none⟩ = some (.slice (some ⟨b, o, none⟩) B.lats.length SB.c1) ∧ w'.cell? ⟨pb, 2, none⟩ = some (.slice SB.a2 B.ands.length SB.c2) ∧ w'.cell? ⟨pb, 3, none⟩ = some (.slice SB.a3 B.outs.length SB.c3)) w') := fun w' hb => by
      have ha := HXA.out.to hpa hb
      have hb' := HXB.out.to hpb hb
      exact ⟨(hb.cell (p := ⟨b, o + i * 2, none⟩) hlb).trans y0, (hb.cell (p := ⟨b, o + i * 2 + 1, none⟩) hlb).trans y1, ha.c0, ha.c1, ha.c2, ha.c3, hb'.c0, by rw [← ea]; exact hb'.c1, hb'.c2, hb'.c3⟩
     have MVC : Hid (∀ (l : Int) (w' : World), 0 ≤ l ∧ l ≤ 4000000 → Calls Try.prog 51 #[.agg #[.int .i64 A.ins, .slice SA.a1 A.lats.length SA.c1, .slice SA.a2 A.ands.length SA.c2, .slice SA.a3 A.outs.length SA.c3], .agg #[.int .i64 B.ins, .slice (some ⟨b, o, none⟩) B.lats.length SB.c1, .slice SB.a2 B.ands.length SB.c2, .slice SB.a3 B.outs.length SB.c3], .int .i64 l] w' fun e w'' => e = .returned (.int .i64 (mvF B A.lats.length (A.lats.length + A.ands.length) l)) ∧ Below w'.heap.size w' w'') := fun l w' hl => by
      rw [← ea]; exact moved_doc w' SA SB A B HOA.out HOB.out l hl
     obtain ⟨uf, HUF⟩ : ∃ x, Hid (x = u 1) := ⟨_, rfl⟩
     obtain ⟨fn, HFN⟩ : ∃ x : Nat, Hid (x = (⟨A.ins, L1 ++ (B.lats.take (i)).map (mvL B A.lats.length (A.lats.length + A.ands.length)), N0, O0⟩ : GrD).lats.length) := ⟨_, rfl⟩
     have gd : wr.drew.cell? ⟨gb, 1, none⟩ = some uf := by rw [HUF.out]; exact HTd.out.fld 1 (by decide)
     have HFAR : Hid (uf.ownBlock ≠ some gb) := by rw [HUF.out]; exact HTd.out.nb 1
     have hfn : fn ≤ 400000 := by
      rw [HFN.out]
      simp only [List.length_append, List.length_map, List.length_take]
      have := hL1
      omega
     have hm1 : fn + 1 ≤ maxLen := by simp only [maxLen]; omega
     have hm2 : (fn + 1) * 16 ≤ 140737488355328 := by omega
     rw [ea] at gS
     clear hd hc hlb ea y0 y1
     go_upto_region 9 with fail
     clear gS
     refine wp_region_noPanic ?_
     refine wp_region_held_drew (S := (fun w' => w'.cell? ⟨b, o + i * 2, none⟩ = some (.int .i64 nx) ∧ w'.cell? ⟨b, o + i * 2 + 1, none⟩ = some (.bool it) ∧ w'.cell? ⟨pa, 0, none⟩ = some (.int .i64 A.ins) ∧ w'.cell? ⟨pa, 1, none⟩ = some (.slice SA.a1 A.lats.length SA.c1) ∧ w'.cell? ⟨pa, 2, none⟩ = some (.slice SA.a2 A.ands.length SA.c2) ∧ w'.cell? ⟨pa, 3, none⟩ = some (.slice SA.a3 A.outs.length SA.c3) ∧ w'.cell? ⟨pb, 0, none⟩ = some (.int .i64 B.ins) ∧ w'.cell? ⟨pb, 1, none⟩ = some (.slice (some ⟨b, o, none⟩) B.lats.length SB.c1) ∧ w'.cell? ⟨pb, 2, none⟩ = some (.slice SB.a2 B.ands.length SB.c2) ∧ w'.cell? ⟨pb, 3, none⟩ = some (.slice SB.a3 B.outs.length SB.c3))) (by kernel_rfl) (by first | exact K1.out _ hQd | first | assumption | exact K1.out _ (by assumption)) (fun hHeld => ?_)
     refine tk 0 ?_
     refine tk 2 ?_
     refine tk 3 ?_
     refine tk 4 ?_
     refine tk 5 ?_
     refine tk 6 ?_
     refine tk 7 ?_
     refine tk 8 ?_
     refine tk 9 ?_
     refine tk 11 ?_
     refine tk 12 ?_
     refine tk 13 ?_
     refine tk 14 ?_
     refine tk 15 ?_
     refine tk 16 ?_
     refine wpAnyH_ready (rs := [1, 10]) (by kernel_rfl) (by simp) ?_
     refine AllReadyH.cons (o := _) rfl (fun K hK => ?_) ?_
     ·(try simp only [gA, gB, gC])
      go_simp
      refine hK.out _ _ (by first | assumption | exact K1.out _ (by assumption)) (fun hHeld1 => ?_)
      clear hK K
      (try simp only [Act.put]); (try simp only [sA]); (try simp only [sB, sC])
      refine wpAnyH_ready (rs := [10]) (by kernel_rfl) (by simp) ?_
      refine AllReadyH.cons (o := _) rfl (fun K hK => ?_) AllReadyH.nil
      (try simp only [gA, gB, gC])
      go_simp
      go_at_call 51
      refine (MVC.out nx _ hdl).mono ?_
      rintro e v1 ⟨rfl, hbx1⟩
      have hQ1 : Below C W v1 := hQd.trans (hbx1.mono HTd.out.size)
      have HT1 := hidden (HTd.out.rest hbx1)
      have gv1 : v1.cell? ⟨gb, 1, none⟩ = some uf := by rw [HUF.out]; exact HT1.out.fld 1 (by decide)
      have hgv1 : gb < v1.heap.size := HT1.out.lt
      clear hbx1
      go_wp2_with fail
      refine hK.out _ _ (by first | assumption | exact K1.out _ (by assumption)) (fun hHeld10 => ?_)
      clear hK K
      (try simp only [Act.put]); (try simp only [sA]); (try simp only [sB, sC])
      refine tk 17 ?_
      refine wpAnyH_ready (rs := [18]) (by kernel_rfl) (by simp) ?_
      refine AllReadyH.cons (o := _) rfl (fun K hK => ?_) AllReadyH.nil
      (try simp only [gA, gB, gC])
      go_simp
      refine hK.out _ _ (by first | assumption | exact K1.out _ (hQ1.alloc HT1.out.size _)) (fun hHeld18 => ?_)
      clear hK K
      (try simp only [Act.put]); (try simp only [sA]); (try simp only [sB, sC])
      refine wpAnyH_ready (rs := [19]) (by kernel_rfl) (by simp) ?_
      refine AllReadyH.cons (o := _) rfl (fun K hK => ?_) AllReadyH.nil
      have HOW : Hid (v1.ownsRow C 55 2 uf fn ((⟨A.ins, L1 ++ (B.lats.take (i)).map (mvL B A.lats.length (A.lats.length + A.ands.length)), N0, O0⟩ : GrD).lats.flatMap LatD.cells)) := by
       have := HT1.out.l
       rw [← HUF.out, ← HFN.out] at this
       exact this
      have hm3 : C ≤ (v1.alloc (.cells #[.int .i64 (mvF B A.lats.length (A.lats.length + A.ands.length) nx), .bool it] 55)).heap.size := by have := HT1.out.size; simp; omega
      refine step_append_lies _ rfl (.tmp 51) (.tmp 68) 27 rfl C 55 il _ 2 16 Try.underlying27 HI.out HZ.out HSI.out HBY.out rfl (by decide) uf fn _ rfl (HOW.out.alloc _) ⟨v1.heap.size, 0, none⟩ 1 1 [.int .i64 (mvF B A.lats.length (A.lats.length + A.ands.length) nx), .bool it] rfl rfl (World.news_of_block (heap_new _ _)) (by simp [Value.oneCell']) (by decide) hm1 hm2 hm3 _ rfl ?_
      intro g cap w6 hown hgrow hat hlt6
      have hg6 := grown_trn (World.grownBy_alloc v1 _ _) hgrow
      have hc6 : w6.cell? ⟨gb, 1, none⟩ = some uf := (hg6.cell_far ⟨gb, 1, none⟩ hgv1 (fun e => HFAR.out e.symm)).trans gv1
      have hf6 : w6.frozen? ⟨gb, 1, none⟩ = false := (hg6.frozen_far ⟨gb, 1, none⟩ hgv1 (fun e => HFAR.out e.symm)).trans (frozen_of_row _ _ _ _ _ HT1.out.box)
      have hQ6 : Below C W w6 := hQ1.trans ⟨hg6.os, hg6.tape, hg6.output, hg6.size, fun k hk => hg6.block k (Nat.lt_of_lt_of_le hk HT1.out.size) (fun e => by have := (HOW.out.lt k e.symm).1; omega)⟩
      refine hK.out _ _ (by first | assumption | exact K1.out _ hQ6) (fun hHeldp => ?_)
      clear hK K
      (try simp only [Act.put]); (try simp only [sA]); (try simp only [sB, sC])
      refine tk 20 ?_
      refine wpAnyH_ready (rs := [21]) (by kernel_rfl) (by simp) ?_
      refine AllReadyH.cons (o := _) rfl (fun K hK => ?_) AllReadyH.nil
      (try simp only [gA, gB, gC])
      go_simp
      refine hK.out _ _ (by first | assumption | exact K1.out _ (hQ6.trans (below_of (gset _ _ _ _) HT1.out.base (Nat.le_trans HT1.out.size hg6.size)))) (fun hHelds => ?_)
      clear hK K
      (try simp only [Act.put]); (try simp only [sA]); (try simp only [sB, sC])
      refine wpAnyH_done (by kernel_rfl) ?_ _
      refine NoPanic.normal ?_
      obtain ⟨t1, t2, -⟩ := HT1.out.pushl ⟨mvF B A.lats.length (A.lats.length + A.ands.length) nx, it⟩ (g := g) (cap := cap) (by rw [← HUF.out]; exact hg6) (by rw [← HFN.out]; exact hown) (by
       rw [← HUF.out]
       rcases hat with h | h
       ·exact .inl h
       ·refine .inr ?_
        simp at h
        omega)
      rw [← HFN.out] at t1 t2
      have HQ9 : Hid (Below C W (w6.setCell ⟨gb, 1, none⟩ (.slice (some ⟨g, 0, none⟩) (fn + 1) cap))) := hQ1.trans t2
      have HT9 := hidden t1
      clear t1 t2
      generalize World.setCell w6 _ _ = w9 at HT9 HQ9 ⊢
      have HT9' : Hid (∃ u', TkP C w9 gb A.ins u' (⟨A.ins, L1 ++ (B.lats.take (i + 1)).map (mvL B A.lats.length (A.lats.length + A.ands.length)), N0, O0⟩) []) := by
       show ∃ u', TkP _ _ _ _ _ _ _
       rw [take_next _ i _ HDI.out, List.map_append, ← List.append_assoc]
       exact ⟨_, HT9.out⟩
      clear HT9 hown hgrow hat hlt6 hg6 hc6 hf6 K1 MVC HOW hm3 hQd HTd hQ6 hQ1 HT1 gv1 hgv1 gd
      go_wp2
      go_roundw
      case measure => simp [intOf]; omega
      case rel => exact ⟨i + 1, by omega, by simp, HT9'.out, HQ9.out⟩
     refine AllReadyH.cons (o := _) rfl (fun K hK => ?_) AllReadyH.nil
     (try simp only [gA, gB, gC])
     go_simp
     go_at_call 51
     refine (MVC.out nx _ hdl).mono ?_
     rintro e v1 ⟨rfl, hbx1⟩
     have hQ1 : Below C W v1 := hQd.trans (hbx1.mono HTd.out.size)
     have HT1 := hidden (HTd.out.rest hbx1)
     have gv1 : v1.cell? ⟨gb, 1, none⟩ = some uf := by rw [HUF.out]; exact HT1.out.fld 1 (by decide)
     have hgv1 : gb < v1.heap.size := HT1.out.lt
     clear hbx1
     go_wp2_with fail
     refine hK.out _ _ (by first | assumption | exact K1.out _ (by assumption)) (fun hHeld10 => ?_)
     clear hK K
     (try simp only [Act.put]); (try simp only [sA]); (try simp only [sB, sC])
     refine tk 17 ?_
     refine wpAnyH_ready (rs := [1, 18]) (by kernel_rfl) (by simp) ?_
     refine AllReadyH.cons (o := _) rfl (fun K hK => ?_) ?_
     ·(try simp only [gA, gB, gC])
      go_simp
      refine hK.out _ _ (by first | assumption | exact K1.out _ (by assumption)) (fun hHeld1 => ?_)
      clear hK K
      (try simp only [Act.put]); (try simp only [sA]); (try simp only [sB, sC])
      refine wpAnyH_ready (rs := [18]) (by kernel_rfl) (by simp) ?_
      refine AllReadyH.cons (o := _) rfl (fun K hK => ?_) AllReadyH.nil
      (try simp only [gA, gB, gC])
      go_simp
      refine hK.out _ _ (by first | assumption | exact K1.out _ (hQ1.alloc HT1.out.size _)) (fun hHeld18 => ?_)
      clear hK K
      (try simp only [Act.put]); (try simp only [sA]); (try simp only [sB, sC])
      refine wpAnyH_ready (rs := [19]) (by kernel_rfl) (by simp) ?_
      refine AllReadyH.cons (o := _) rfl (fun K hK => ?_) AllReadyH.nil
      have HOW : Hid (v1.ownsRow C 55 2 uf fn ((⟨A.ins, L1 ++ (B.lats.take (i)).map (mvL B A.lats.length (A.lats.length + A.ands.length)), N0, O0⟩ : GrD).lats.flatMap LatD.cells)) := by
       have := HT1.out.l
       rw [← HUF.out, ← HFN.out] at this
       exact this
      have hm3 : C ≤ (v1.alloc (.cells #[.int .i64 (mvF B A.lats.length (A.lats.length + A.ands.length) nx), .bool it] 55)).heap.size := by have := HT1.out.size; simp; omega
      refine step_append_lies _ rfl (.tmp 51) (.tmp 68) 27 rfl C 55 il _ 2 16 Try.underlying27 HI.out HZ.out HSI.out HBY.out rfl (by decide) uf fn _ rfl (HOW.out.alloc _) ⟨v1.heap.size, 0, none⟩ 1 1 [.int .i64 (mvF B A.lats.length (A.lats.length + A.ands.length) nx), .bool it] rfl rfl (World.news_of_block (heap_new _ _)) (by simp [Value.oneCell']) (by decide) hm1 hm2 hm3 _ rfl ?_
      intro g cap w6 hown hgrow hat hlt6
      have hg6 := grown_trn (World.grownBy_alloc v1 _ _) hgrow
      have hc6 : w6.cell? ⟨gb, 1, none⟩ = some uf := (hg6.cell_far ⟨gb, 1, none⟩ hgv1 (fun e => HFAR.out e.symm)).trans gv1
      have hf6 : w6.frozen? ⟨gb, 1, none⟩ = false := (hg6.frozen_far ⟨gb, 1, none⟩ hgv1 (fun e => HFAR.out e.symm)).trans (frozen_of_row _ _ _ _ _ HT1.out.box)
      have hQ6 : Below C W w6 := hQ1.trans ⟨hg6.os, hg6.tape, hg6.output, hg6.size, fun k hk => hg6.block k (Nat.lt_of_lt_of_le hk HT1.out.size) (fun e => by have := (HOW.out.lt k e.symm).1; omega)⟩
      refine hK.out _ _ (by first | assumption | exact K1.out _ hQ6) (fun hHeldp => ?_)
      clear hK K
      (try simp only [Act.put]); (try simp only [sA]); (try simp only [sB, sC])
      refine tk 20 ?_
      refine wpAnyH_ready (rs := [21]) (by kernel_rfl) (by simp) ?_
      refine AllReadyH.cons (o := _) rfl (fun K hK => ?_) AllReadyH.nil
      (try simp only [gA, gB, gC])
      go_simp
      refine hK.out _ _ (by first | assumption | exact K1.out _ (hQ6.trans (below_of (gset _ _ _ _) HT1.out.base (Nat.le_trans HT1.out.size hg6.size)))) (fun hHelds => ?_)
      clear hK K
      (try simp only [Act.put]); (try simp only [sA]); (try simp only [sB, sC])
      refine wpAnyH_done (by kernel_rfl) ?_ _
      refine NoPanic.normal ?_
      obtain ⟨t1, t2, -⟩ := HT1.out.pushl ⟨mvF B A.lats.length (A.lats.length + A.ands.length) nx, it⟩ (g := g) (cap := cap) (by rw [← HUF.out]; exact hg6) (by rw [← HFN.out]; exact hown) (by
       rw [← HUF.out]
       rcases hat with h | h
       ·exact .inl h
       ·refine .inr ?_
        simp at h
        omega)
      rw [← HFN.out] at t1 t2
      have HQ9 : Hid (Below C W (w6.setCell ⟨gb, 1, none⟩ (.slice (some ⟨g, 0, none⟩) (fn + 1) cap))) := hQ1.trans t2
      have HT9 := hidden t1
      clear t1 t2
      generalize World.setCell w6 _ _ = w9 at HT9 HQ9 ⊢
      have HT9' : Hid (∃ u', TkP C w9 gb A.ins u' (⟨A.ins, L1 ++ (B.lats.take (i + 1)).map (mvL B A.lats.length (A.lats.length + A.ands.length)), N0, O0⟩) []) := by
       show ∃ u', TkP _ _ _ _ _ _ _
       rw [take_next _ i _ HDI.out, List.map_append, ← List.append_assoc]
       exact ⟨_, HT9.out⟩
      clear HT9 hown hgrow hat hlt6 hg6 hc6 hf6 K1 MVC HOW hm3 hQd HTd hQ6 hQ1 HT1 gv1 hgv1 gd
      go_wp2
      go_roundw
      case measure => simp [intOf]; omega
      case rel => exact ⟨i + 1, by omega, by simp, HT9'.out, HQ9.out⟩
     refine AllReadyH.cons (o := _) rfl (fun K hK => ?_) AllReadyH.nil
     (try simp only [gA, gB, gC])
     go_simp
     refine hK.out _ _ (by first | assumption | exact K1.out _ (hQ1.alloc HT1.out.size _)) (fun hHeld18 => ?_)
     clear hK K
     (try simp only [Act.put]); (try simp only [sA]); (try simp only [sB, sC])
     refine wpAnyH_ready (rs := [1]) (by kernel_rfl) (by simp) ?_
     refine AllReadyH.cons (o := _) rfl (fun K hK => ?_) AllReadyH.nil
     (try simp only [gA, gB, gC])
     go_simp
     refine hK.out _ _ (by first | assumption | exact K1.out _ (by assumption)) (fun hHeld1 => ?_)
     clear hK K
     (try simp only [Act.put]); (try simp only [sA]); (try simp only [sB, sC])
     refine wpAnyH_ready (rs := [19]) (by kernel_rfl) (by simp) ?_
     refine AllReadyH.cons (o := _) rfl (fun K hK => ?_) AllReadyH.nil
     have HOW : Hid (v1.ownsRow C 55 2 uf fn ((⟨A.ins, L1 ++ (B.lats.take (i)).map (mvL B A.lats.length (A.lats.length + A.ands.length)), N0, O0⟩ : GrD).lats.flatMap LatD.cells)) := by
      have := HT1.out.l
      rw [← HUF.out, ← HFN.out] at this
      exact this
     have hm3 : C ≤ (v1.alloc (.cells #[.int .i64 (mvF B A.lats.length (A.lats.length + A.ands.length) nx), .bool it] 55)).heap.size := by have := HT1.out.size; simp; omega
     refine step_append_lies _ rfl (.tmp 51) (.tmp 68) 27 rfl C 55 il _ 2 16 Try.underlying27 HI.out HZ.out HSI.out HBY.out rfl (by decide) uf fn _ rfl (HOW.out.alloc _) ⟨v1.heap.size, 0, none⟩ 1 1 [.int .i64 (mvF B A.lats.length (A.lats.length + A.ands.length) nx), .bool it] rfl rfl (World.news_of_block (heap_new _ _)) (by simp [Value.oneCell']) (by decide) hm1 hm2 hm3 _ rfl ?_
     intro g cap w6 hown hgrow hat hlt6
     have hg6 := grown_trn (World.grownBy_alloc v1 _ _) hgrow
     have hc6 : w6.cell? ⟨gb, 1, none⟩ = some uf := (hg6.cell_far ⟨gb, 1, none⟩ hgv1 (fun e => HFAR.out e.symm)).trans gv1
     have hf6 : w6.frozen? ⟨gb, 1, none⟩ = false := (hg6.frozen_far ⟨gb, 1, none⟩ hgv1 (fun e => HFAR.out e.symm)).trans (frozen_of_row _ _ _ _ _ HT1.out.box)
     have hQ6 : Below C W w6 := hQ1.trans ⟨hg6.os, hg6.tape, hg6.output, hg6.size, fun k hk => hg6.block k (Nat.lt_of_lt_of_le hk HT1.out.size) (fun e => by have := (HOW.out.lt k e.symm).1; omega)⟩
     refine hK.out _ _ (by first | assumption | exact K1.out _ hQ6) (fun hHeldp => ?_)
     clear hK K
     (try simp only [Act.put]); (try simp only [sA]); (try simp only [sB, sC])
     refine tk 20 ?_
     refine wpAnyH_ready (rs := [21]) (by kernel_rfl) (by simp) ?_
     refine AllReadyH.cons (o := _) rfl (fun K hK => ?_) AllReadyH.nil
     (try simp only [gA, gB, gC])
     go_simp
     refine hK.out _ _ (by first | assumption | exact K1.out _ (hQ6.trans (below_of (gset _ _ _ _) HT1.out.base (Nat.le_trans HT1.out.size hg6.size)))) (fun hHelds => ?_)
     clear hK K
     (try simp only [Act.put]); (try simp only [sA]); (try simp only [sB, sC])
     refine wpAnyH_done (by kernel_rfl) ?_ _
     refine NoPanic.normal ?_
     obtain ⟨t1, t2, -⟩ := HT1.out.pushl ⟨mvF B A.lats.length (A.lats.length + A.ands.length) nx, it⟩ (g := g) (cap := cap) (by rw [← HUF.out]; exact hg6) (by rw [← HFN.out]; exact hown) (by
      rw [← HUF.out]
      rcases hat with h | h
      ·exact .inl h
      ·refine .inr ?_
       simp at h
       omega)
     rw [← HFN.out] at t1 t2
     have HQ9 : Hid (Below C W (w6.setCell ⟨gb, 1, none⟩ (.slice (some ⟨g, 0, none⟩) (fn + 1) cap))) := hQ1.trans t2
     have HT9 := hidden t1
     clear t1 t2
     generalize World.setCell w6 _ _ = w9 at HT9 HQ9 ⊢
     have HT9' : Hid (∃ u', TkP C w9 gb A.ins u' (⟨A.ins, L1 ++ (B.lats.take (i + 1)).map (mvL B A.lats.length (A.lats.length + A.ands.length)), N0, O0⟩) []) := by
      show ∃ u', TkP _ _ _ _ _ _ _
      rw [take_next _ i _ HDI.out, List.map_append, ← List.append_assoc]
      exact ⟨_, HT9.out⟩
     clear HT9 hown hgrow hat hlt6 hg6 hc6 hf6 K1 MVC HOW hm3 hQd HTd hQ6 hQ1 HT1 gv1 hgv1 gd
     go_wp2
     go_roundw
     case measure => simp [intOf]; omega
     case rel => exact ⟨i + 1, by omega, by simp, HT9'.out, HQ9.out⟩
    ·have hge : ¬ ((i : Int) < (B.lats.length : Int)) := by omega
     obtain ⟨L2, HL2⟩ : ∃ z, Hid (z = L1 ++ B.lats.map (mvL B A.lats.length (A.lats.length + A.ands.length))) := ⟨_, rfl⟩
     have hL2 : L2.length ≤ 120000 := by
      rw [HL2.out]
      simp only [List.length_append, List.length_map]
      have := hL1
      have := HOB.out.l1; have := HOB.out.a1; have := HOB.out.o1
      omega
     have HTv2 : Hid (∃ u', TkP C wr gb A.ins u' (⟨A.ins, L2, N0, O0⟩) []) := by
      show ∃ u', TkP _ _ _ _ _ _ _
      rw [HL2.out]
      have := HTk.out
      rw [List.take_of_length_le (by omega)] at this
      exact this
     have HQv2 := HQ0
     clear HTk HQ0
     obtain ⟨V2, hV2⟩ : ∃ z, z = wr := ⟨_, rfl⟩
     rw [← hV2] at HTv2 HQv2 gS ⊢
     clear hV2
     have gS : V2.cell? ⟨pa, 2, none⟩ = some (.slice SA.a2 A.ands.length SA.c2) := (HXA.out.to hpa HQv2.out).c2
     go_wp2_with fail
     clear gS
     go_loopw [8] (fun i' w' => ∃ (i : Nat), i ≤ A.ands.length ∧ i' = .int .i64 i ∧ Hid (∃ u', TkP C w' gb A.ins u' (⟨A.ins, L2, N0 ++ (A.ands.take (i)).map (mvA A 0 B.lats.length), O0⟩) []) ∧ Hid (Below C W w')) (fun i' _ => A.ands.length - (intOf i').toNat)
     case atStart => exact ⟨0, Nat.zero_le _, rfl, by show ∃ u', TkP _ _ _ _ _ _ _; simpa using HTv2.out, HQv2.out⟩
     case round =>
      clear HTv2 HQv2
      obtain ⟨i, hi, rfl, HTk, HQ0⟩ := hrel
      have gS : wr.cell? ⟨pa, 2, none⟩ = some (.slice SA.a2 A.ands.length SA.c2) := (HXA.out.to hpa HQ0.out).c2
      by_cases hlt : i < A.ands.length
      ·obtain ⟨u, ht⟩ := HTk.out
       have HTd : Hid (TkP C wr.drew gb A.ins u (⟨A.ins, L2, N0 ++ (A.ands.take (i)).map (mvA A 0 B.lats.length), O0⟩) []) := ht.rest (Below.drew (Below.refl _ _))
       have hQd : Below C W wr.drew := Below.drew HQ0.out
       clear ht HTk
       have hltI : (i : Int) < (A.ands.length : Int) := by omega
       obtain ⟨d, hd⟩ := getElem_lt hlt
       have HDI := hidden hd
       have hpl : A.ands.length ≤ 60000 := by have := HOA.out.l1; have := HOA.out.a1; have := HOA.out.o1; omega
       obtain ⟨b, o, ea, hlb, hc⟩ := (HGA.out W (Below.refl _ _)).a.el hd
       have hdl : (0 ≤ d.x ∧ d.x ≤ 4000000) ∧ (0 ≤ d.y ∧ d.y ≤ 4000000) := by have := HOA.out.andL d (List.mem_of_getElem? hd); omega
       obtain ⟨x, y⟩ := d
       have y0 : W.cell? ⟨b, o + i * 2, none⟩ = some (.int .i64 x) := hc 0 _ rfl
       have y1 : W.cell? ⟨b, o + i * 2 + 1, none⟩ = some (.int .i64 y) := hc 1 _ rfl
       dsimp only at hdl
       have e3 : IntKind.i64.wrap ((i : Int) + 1) = (i : Int) + 1 := wrapI _ (by omega) (by omega)
       obtain ⟨il, hi', hz', hs', hby'⟩ := info_two
       have HI := hidden hi'
       have HZ := hidden hz'
       have HSI := hidden hs'
       have HBY := hidden hby'
       clear hi' hz' hs' hby'
       have K1 : Hid (∀ w', Below C W w' → (fun w' => w'.cell? ⟨b, o + i * 2, none⟩ = some (.int .i64 x) ∧ w'.cell? ⟨b, o + i * 2 + 1, none⟩ = some (.int .i64 y) ∧ w'.cell? ⟨pa, 0, none⟩ = some (.int .i64 A.ins) ∧ w'.cell? ⟨pa, 1, none⟩ = some (.slice SA.a1 A.lats.length SA.c1) ∧ w'.cell? ⟨pa, 2, none⟩ = some (.slice (some ⟨b, o, none⟩) A.ands.length SA.c2) ∧ w'.cell? ⟨pa, 3, none⟩ = some (.slice SA.a3 A.outs.length SA.c3) ∧ w'.cell? ⟨pb, 0, none⟩ = some (.int .i64 B.ins) ∧ w'.cell? ⟨pb, 1, none⟩ = some (.slice SB.a1 B.lats.length SB.c1) ∧ w'.cell? ⟨pb, 2, none⟩ = some (.slice SB.a2 B.ands.length SB.c2) ∧ w'.cell? ⟨pb, 3, none⟩ = some (.slice SB.a3 B.outs.length SB.c3)) w') := fun w' hb => by
        have ha := HXA.out.to hpa hb
        have hb' := HXB.out.to hpb hb
        exact ⟨(hb.cell (p := ⟨b, o + i * 2, none⟩) hlb).trans y0, (hb.cell (p := ⟨b, o + i * 2 + 1, none⟩) hlb).trans y1, ha.c0, ha.c1, by rw [← ea]; exact ha.c2, ha.c3, hb'.c0, hb'.c1, hb'.c2, hb'.c3⟩
       have MVC : Hid (∀ (l : Int) (w' : World), 0 ≤ l ∧ l ≤ 4000000 → Calls Try.prog 50 #[.agg #[.int .i64 A.ins, .slice SA.a1 A.lats.length SA.c1, .slice (some ⟨b, o, none⟩) A.ands.length SA.c2, .slice SA.a3 A.outs.length SA.c3], .agg #[.int .i64 B.ins, .slice SB.a1 B.lats.length SB.c1, .slice SB.a2 B.ands.length SB.c2, .slice SB.a3 B.outs.length SB.c3], .int .i64 l] w' fun e w'' => e = .returned (.int .i64 (mvF A 0 B.lats.length l)) ∧ Below w'.heap.size w' w'') := fun l w' hl => by
        rw [← ea]; exact movedOne_doc w' SA SB A B HOA.out HOB.out l hl
       obtain ⟨uf, HUF⟩ : ∃ x, Hid (x = u 2) := ⟨_, rfl⟩
       obtain ⟨fn, HFN⟩ : ∃ x : Nat, Hid (x = (⟨A.ins, L2, N0 ++ (A.ands.take (i)).map (mvA A 0 B.lats.length), O0⟩ : GrD).ands.length) := ⟨_, rfl⟩
       have gd : wr.drew.cell? ⟨gb, 2, none⟩ = some uf := by rw [HUF.out]; exact HTd.out.fld 2 (by decide)
       have HFAR : Hid (uf.ownBlock ≠ some gb) := by rw [HUF.out]; exact HTd.out.nb 2
       have hfn : fn ≤ 400000 := by
        rw [HFN.out]
        simp only [List.length_append, List.length_map, List.length_take]
        have := hN0
        omega
       have hm1 : fn + 1 ≤ maxLen := by simp only [maxLen]; omega
       have hm2 : (fn + 1) * 16 ≤ 140737488355328 := by omega
       rw [ea] at gS
       clear hd hc hlb ea y0 y1
       go_upto_region 13 with fail
       clear gS
       refine wp_region_noPanic ?_
       refine wp_region_held_drew (S := (fun w' => w'.cell? ⟨b, o + i * 2, none⟩ = some (.int .i64 x) ∧ w'.cell? ⟨b, o + i * 2 + 1, none⟩ = some (.int .i64 y) ∧ w'.cell? ⟨pa, 0, none⟩ = some (.int .i64 A.ins) ∧ w'.cell? ⟨pa, 1, none⟩ = some (.slice SA.a1 A.lats.length SA.c1) ∧ w'.cell? ⟨pa, 2, none⟩ = some (.slice (some ⟨b, o, none⟩) A.ands.length SA.c2) ∧ w'.cell? ⟨pa, 3, none⟩ = some (.slice SA.a3 A.outs.length SA.c3) ∧ w'.cell? ⟨pb, 0, none⟩ = some (.int .i64 B.ins) ∧ w'.cell? ⟨pb, 1, none⟩ = some (.slice SB.a1 B.lats.length SB.c1) ∧ w'.cell? ⟨pb, 2, none⟩ = some (.slice SB.a2 B.ands.length SB.c2) ∧ w'.cell? ⟨pb, 3, none⟩ = some (.slice SB.a3 B.outs.length SB.c3))) (by kernel_rfl) (by first | exact K1.out _ hQd | first | assumption | exact K1.out _ (by assumption)) (fun hHeld => ?_)
       refine tk 0 ?_
       refine tk 2 ?_
       refine tk 3 ?_
       refine tk 4 ?_
       refine tk 5 ?_
       refine tk 6 ?_
       refine tk 7 ?_
       refine tk 8 ?_
       refine tk 9 ?_
       refine tk 11 ?_
       refine tk 12 ?_
       refine tk 13 ?_
       refine tk 14 ?_
       refine tk 15 ?_
       refine tk 16 ?_
       refine tk 17 ?_
       refine tk 18 ?_
       refine wpAnyH_ready (rs := [1, 10]) (by kernel_rfl) (by simp) ?_
       refine AllReadyH.cons (o := _) rfl (fun K hK => ?_) ?_
       ·(try simp only [gA, gB, gC])
        go_simp
        refine hK.out _ _ (by first | assumption | exact K1.out _ (by assumption)) (fun hHeld1 => ?_)
        clear hK K
        (try simp only [Act.put]); (try simp only [sA]); (try simp only [sB, sC])
        refine wpAnyH_ready (rs := [10]) (by kernel_rfl) (by simp) ?_
        refine AllReadyH.cons (o := _) rfl (fun K hK => ?_) AllReadyH.nil
        (try simp only [gA, gB, gC])
        go_simp
        go_at_call 50
        refine (MVC.out x _ hdl.1).mono ?_
        rintro e v1 ⟨rfl, hbx1⟩
        have hQ1 : Below C W v1 := hQd.trans (hbx1.mono HTd.out.size)
        have HT1 := hidden (HTd.out.rest hbx1)
        have gv1 : v1.cell? ⟨gb, 2, none⟩ = some uf := by rw [HUF.out]; exact HT1.out.fld 2 (by decide)
        have hgv1 : gb < v1.heap.size := HT1.out.lt
        clear hbx1
        go_wp2_with fail
        refine hK.out _ _ (by first | assumption | exact K1.out _ (by assumption)) (fun hHeld10 => ?_)
        clear hK K
        (try simp only [Act.put]); (try simp only [sA]); (try simp only [sB, sC])
        refine wpAnyH_ready (rs := [19]) (by kernel_rfl) (by simp) ?_
        refine AllReadyH.cons (o := _) rfl (fun K hK => ?_) AllReadyH.nil
        (try simp only [gA, gB, gC])
        go_simp
        go_at_call 50
        refine (MVC.out y _ hdl.2).mono ?_
        rintro e v2 ⟨rfl, hbx2⟩
        have hQ2 : Below C W v2 := hQ1.trans (hbx2.mono HT1.out.size)
        have HT2 := hidden (HT1.out.rest hbx2)
        have gv2 : v2.cell? ⟨gb, 2, none⟩ = some uf := by rw [HUF.out]; exact HT2.out.fld 2 (by decide)
        have hgv2 : gb < v2.heap.size := HT2.out.lt
        clear hbx2
        go_wp2_with fail
        refine hK.out _ _ (by first | assumption | exact K1.out _ (by assumption)) (fun hHeld19 => ?_)
        clear hK K
        (try simp only [Act.put]); (try simp only [sA]); (try simp only [sB, sC])
        refine tk 20 ?_
        refine wpAnyH_ready (rs := [21]) (by kernel_rfl) (by simp) ?_
        refine AllReadyH.cons (o := _) rfl (fun K hK => ?_) AllReadyH.nil
        (try simp only [gA, gB, gC])
        go_simp
        refine hK.out _ _ (by first | assumption | exact K1.out _ (hQ2.alloc HT2.out.size _)) (fun hHeld21 => ?_)
        clear hK K
        (try simp only [Act.put]); (try simp only [sA]); (try simp only [sB, sC])
        refine wpAnyH_ready (rs := [22]) (by kernel_rfl) (by simp) ?_
        refine AllReadyH.cons (o := _) rfl (fun K hK => ?_) AllReadyH.nil
        have HOW : Hid (v2.ownsRow C 33 2 uf fn ((⟨A.ins, L2, N0 ++ (A.ands.take (i)).map (mvA A 0 B.lats.length), O0⟩ : GrD).ands.flatMap AndD.cells)) := by
         have := HT2.out.a
         rw [← HUF.out, ← HFN.out] at this
         exact this
        have hm3 : C ≤ (v2.alloc (.cells #[.int .i64 (mvF A 0 B.lats.length x), .int .i64 (mvF A 0 B.lats.length y)] 33)).heap.size := by have := HT2.out.size; simp; omega
        refine step_append_lies _ rfl (.tmp 79) (.tmp 99) 28 rfl C 33 il _ 2 16 Try.underlying28 HI.out HZ.out HSI.out HBY.out rfl (by decide) uf fn _ rfl (HOW.out.alloc _) ⟨v2.heap.size, 0, none⟩ 1 1 [.int .i64 (mvF A 0 B.lats.length x), .int .i64 (mvF A 0 B.lats.length y)] rfl rfl (World.news_of_block (heap_new _ _)) (by simp [Value.oneCell']) (by decide) hm1 hm2 hm3 _ rfl ?_
        intro g cap w6 hown hgrow hat hlt6
        have hg6 := grown_trn (World.grownBy_alloc v2 _ _) hgrow
        have hc6 : w6.cell? ⟨gb, 2, none⟩ = some uf := (hg6.cell_far ⟨gb, 2, none⟩ hgv2 (fun e => HFAR.out e.symm)).trans gv2
        have hf6 : w6.frozen? ⟨gb, 2, none⟩ = false := (hg6.frozen_far ⟨gb, 2, none⟩ hgv2 (fun e => HFAR.out e.symm)).trans (frozen_of_row _ _ _ _ _ HT2.out.box)
        have hQ6 : Below C W w6 := hQ2.trans ⟨hg6.os, hg6.tape, hg6.output, hg6.size, fun k hk => hg6.block k (Nat.lt_of_lt_of_le hk HT2.out.size) (fun e => by have := (HOW.out.lt k e.symm).1; omega)⟩
        refine hK.out _ _ (by first | assumption | exact K1.out _ hQ6) (fun hHeldp => ?_)
        clear hK K
        (try simp only [Act.put]); (try simp only [sA]); (try simp only [sB, sC])
        refine tk 23 ?_
        refine wpAnyH_ready (rs := [24]) (by kernel_rfl) (by simp) ?_
        refine AllReadyH.cons (o := _) rfl (fun K hK => ?_) AllReadyH.nil
        (try simp only [gA, gB, gC])
        go_simp
        refine hK.out _ _ (by first | assumption | exact K1.out _ (hQ6.trans (below_of (gset _ _ _ _) HT2.out.base (Nat.le_trans HT2.out.size hg6.size)))) (fun hHelds => ?_)
        clear hK K
        (try simp only [Act.put]); (try simp only [sA]); (try simp only [sB, sC])
        refine wpAnyH_done (by kernel_rfl) ?_ _
        refine NoPanic.normal ?_
        obtain ⟨t1, t2, -⟩ := HT2.out.pusha ⟨mvF A 0 B.lats.length x, mvF A 0 B.lats.length y⟩ (g := g) (cap := cap) (by rw [← HUF.out]; exact hg6) (by rw [← HFN.out]; exact hown) (by
         rw [← HUF.out]
         rcases hat with h | h
         ·exact .inl h
         ·refine .inr ?_
          simp at h
          omega)
        rw [← HFN.out] at t1 t2
        have HQ9 : Hid (Below C W (w6.setCell ⟨gb, 2, none⟩ (.slice (some ⟨g, 0, none⟩) (fn + 1) cap))) := hQ2.trans t2
        have HT9 := hidden t1
        clear t1 t2
        generalize World.setCell w6 _ _ = w9 at HT9 HQ9 ⊢
        have HT9' : Hid (∃ u', TkP C w9 gb A.ins u' (⟨A.ins, L2, N0 ++ (A.ands.take (i + 1)).map (mvA A 0 B.lats.length), O0⟩) []) := by
         show ∃ u', TkP _ _ _ _ _ _ _
         rw [take_next _ i _ HDI.out, List.map_append, ← List.append_assoc]
         exact ⟨_, HT9.out⟩
        clear HT9 hown hgrow hat hlt6 hg6 hc6 hf6 K1 MVC HOW hm3 hQd HTd hQ6 hQ1 HT1 gv1 hgv1 hQ2 HT2 gv2 hgv2 gd
        go_wp2
        go_roundw
        case measure => simp [intOf]; omega
        case rel => exact ⟨i + 1, by omega, by simp, HT9'.out, HQ9.out⟩
       refine AllReadyH.cons (o := _) rfl (fun K hK => ?_) AllReadyH.nil
       (try simp only [gA, gB, gC])
       go_simp
       go_at_call 50
       refine (MVC.out x _ hdl.1).mono ?_
       rintro e v1 ⟨rfl, hbx1⟩
       have hQ1 : Below C W v1 := hQd.trans (hbx1.mono HTd.out.size)
       have HT1 := hidden (HTd.out.rest hbx1)
       have gv1 : v1.cell? ⟨gb, 2, none⟩ = some uf := by rw [HUF.out]; exact HT1.out.fld 2 (by decide)
       have hgv1 : gb < v1.heap.size := HT1.out.lt
       clear hbx1
       go_wp2_with fail
       refine hK.out _ _ (by first | assumption | exact K1.out _ (by assumption)) (fun hHeld10 => ?_)
       clear hK K
       (try simp only [Act.put]); (try simp only [sA]); (try simp only [sB, sC])
       refine wpAnyH_ready (rs := [1, 19]) (by kernel_rfl) (by simp) ?_
       refine AllReadyH.cons (o := _) rfl (fun K hK => ?_) ?_
       ·(try simp only [gA, gB, gC])
        go_simp
        refine hK.out _ _ (by first | assumption | exact K1.out _ (by assumption)) (fun hHeld1 => ?_)
        clear hK K
        (try simp only [Act.put]); (try simp only [sA]); (try simp only [sB, sC])
        refine wpAnyH_ready (rs := [19]) (by kernel_rfl) (by simp) ?_
        refine AllReadyH.cons (o := _) rfl (fun K hK => ?_) AllReadyH.nil
        (try simp only [gA, gB, gC])
        go_simp
        go_at_call 50
        refine (MVC.out y _ hdl.2).mono ?_
        rintro e v2 ⟨rfl, hbx2⟩
        have hQ2 : Below C W v2 := hQ1.trans (hbx2.mono HT1.out.size)
        have HT2 := hidden (HT1.out.rest hbx2)
        have gv2 : v2.cell? ⟨gb, 2, none⟩ = some uf := by rw [HUF.out]; exact HT2.out.fld 2 (by decide)
        have hgv2 : gb < v2.heap.size := HT2.out.lt
        clear hbx2
        go_wp2_with fail
        refine hK.out _ _ (by first | assumption | exact K1.out _ (by assumption)) (fun hHeld19 => ?_)
        clear hK K
        (try simp only [Act.put]); (try simp only [sA]); (try simp only [sB, sC])
        refine tk 20 ?_
        refine wpAnyH_ready (rs := [21]) (by kernel_rfl) (by simp) ?_
        refine AllReadyH.cons (o := _) rfl (fun K hK => ?_) AllReadyH.nil
        (try simp only [gA, gB, gC])
        go_simp
        refine hK.out _ _ (by first | assumption | exact K1.out _ (hQ2.alloc HT2.out.size _)) (fun hHeld21 => ?_)
        clear hK K
        (try simp only [Act.put]); (try simp only [sA]); (try simp only [sB, sC])
        refine wpAnyH_ready (rs := [22]) (by kernel_rfl) (by simp) ?_
        refine AllReadyH.cons (o := _) rfl (fun K hK => ?_) AllReadyH.nil
        have HOW : Hid (v2.ownsRow C 33 2 uf fn ((⟨A.ins, L2, N0 ++ (A.ands.take (i)).map (mvA A 0 B.lats.length), O0⟩ : GrD).ands.flatMap AndD.cells)) := by
         have := HT2.out.a
         rw [← HUF.out, ← HFN.out] at this
         exact this
        have hm3 : C ≤ (v2.alloc (.cells #[.int .i64 (mvF A 0 B.lats.length x), .int .i64 (mvF A 0 B.lats.length y)] 33)).heap.size := by have := HT2.out.size; simp; omega
        refine step_append_lies _ rfl (.tmp 79) (.tmp 99) 28 rfl C 33 il _ 2 16 Try.underlying28 HI.out HZ.out HSI.out HBY.out rfl (by decide) uf fn _ rfl (HOW.out.alloc _) ⟨v2.heap.size, 0, none⟩ 1 1 [.int .i64 (mvF A 0 B.lats.length x), .int .i64 (mvF A 0 B.lats.length y)] rfl rfl (World.news_of_block (heap_new _ _)) (by simp [Value.oneCell']) (by decide) hm1 hm2 hm3 _ rfl ?_
        intro g cap w6 hown hgrow hat hlt6
        have hg6 := grown_trn (World.grownBy_alloc v2 _ _) hgrow
        have hc6 : w6.cell? ⟨gb, 2, none⟩ = some uf := (hg6.cell_far ⟨gb, 2, none⟩ hgv2 (fun e => HFAR.out e.symm)).trans gv2
        have hf6 : w6.frozen? ⟨gb, 2, none⟩ = false := (hg6.frozen_far ⟨gb, 2, none⟩ hgv2 (fun e => HFAR.out e.symm)).trans (frozen_of_row _ _ _ _ _ HT2.out.box)
        have hQ6 : Below C W w6 := hQ2.trans ⟨hg6.os, hg6.tape, hg6.output, hg6.size, fun k hk => hg6.block k (Nat.lt_of_lt_of_le hk HT2.out.size) (fun e => by have := (HOW.out.lt k e.symm).1; omega)⟩
        refine hK.out _ _ (by first | assumption | exact K1.out _ hQ6) (fun hHeldp => ?_)
        clear hK K
        (try simp only [Act.put]); (try simp only [sA]); (try simp only [sB, sC])
        refine tk 23 ?_
        refine wpAnyH_ready (rs := [24]) (by kernel_rfl) (by simp) ?_
        refine AllReadyH.cons (o := _) rfl (fun K hK => ?_) AllReadyH.nil
        (try simp only [gA, gB, gC])
        go_simp
        refine hK.out _ _ (by first | assumption | exact K1.out _ (hQ6.trans (below_of (gset _ _ _ _) HT2.out.base (Nat.le_trans HT2.out.size hg6.size)))) (fun hHelds => ?_)
        clear hK K
        (try simp only [Act.put]); (try simp only [sA]); (try simp only [sB, sC])
        refine wpAnyH_done (by kernel_rfl) ?_ _
        refine NoPanic.normal ?_
        obtain ⟨t1, t2, -⟩ := HT2.out.pusha ⟨mvF A 0 B.lats.length x, mvF A 0 B.lats.length y⟩ (g := g) (cap := cap) (by rw [← HUF.out]; exact hg6) (by rw [← HFN.out]; exact hown) (by
         rw [← HUF.out]
         rcases hat with h | h
         ·exact .inl h
         ·refine .inr ?_
          simp at h
          omega)
        rw [← HFN.out] at t1 t2
        have HQ9 : Hid (Below C W (w6.setCell ⟨gb, 2, none⟩ (.slice (some ⟨g, 0, none⟩) (fn + 1) cap))) := hQ2.trans t2
        have HT9 := hidden t1
        clear t1 t2
        generalize World.setCell w6 _ _ = w9 at HT9 HQ9 ⊢
        have HT9' : Hid (∃ u', TkP C w9 gb A.ins u' (⟨A.ins, L2, N0 ++ (A.ands.take (i + 1)).map (mvA A 0 B.lats.length), O0⟩) []) := by
         show ∃ u', TkP _ _ _ _ _ _ _
         rw [take_next _ i _ HDI.out, List.map_append, ← List.append_assoc]
         exact ⟨_, HT9.out⟩
        clear HT9 hown hgrow hat hlt6 hg6 hc6 hf6 K1 MVC HOW hm3 hQd HTd hQ6 hQ1 HT1 gv1 hgv1 hQ2 HT2 gv2 hgv2 gd
        go_wp2
        go_roundw
        case measure => simp [intOf]; omega
        case rel => exact ⟨i + 1, by omega, by simp, HT9'.out, HQ9.out⟩
       refine AllReadyH.cons (o := _) rfl (fun K hK => ?_) AllReadyH.nil
       (try simp only [gA, gB, gC])
       go_simp
       go_at_call 50
       refine (MVC.out y _ hdl.2).mono ?_
       rintro e v2 ⟨rfl, hbx2⟩
       have hQ2 : Below C W v2 := hQ1.trans (hbx2.mono HT1.out.size)
       have HT2 := hidden (HT1.out.rest hbx2)
       have gv2 : v2.cell? ⟨gb, 2, none⟩ = some uf := by rw [HUF.out]; exact HT2.out.fld 2 (by decide)
       have hgv2 : gb < v2.heap.size := HT2.out.lt
       clear hbx2
       go_wp2_with fail
       refine hK.out _ _ (by first | assumption | exact K1.out _ (by assumption)) (fun hHeld19 => ?_)
       clear hK K
       (try simp only [Act.put]); (try simp only [sA]); (try simp only [sB, sC])
       refine tk 20 ?_
       refine wpAnyH_ready (rs := [1, 21]) (by kernel_rfl) (by simp) ?_
       refine AllReadyH.cons (o := _) rfl (fun K hK => ?_) ?_
       ·(try simp only [gA, gB, gC])
        go_simp
        refine hK.out _ _ (by first | assumption | exact K1.out _ (by assumption)) (fun hHeld1 => ?_)
        clear hK K
        (try simp only [Act.put]); (try simp only [sA]); (try simp only [sB, sC])
        refine wpAnyH_ready (rs := [21]) (by kernel_rfl) (by simp) ?_
        refine AllReadyH.cons (o := _) rfl (fun K hK => ?_) AllReadyH.nil
        (try simp only [gA, gB, gC])
        go_simp
        refine hK.out _ _ (by first | assumption | exact K1.out _ (hQ2.alloc HT2.out.size _)) (fun hHeld21 => ?_)
        clear hK K
        (try simp only [Act.put]); (try simp only [sA]); (try simp only [sB, sC])
        refine wpAnyH_ready (rs := [22]) (by kernel_rfl) (by simp) ?_
        refine AllReadyH.cons (o := _) rfl (fun K hK => ?_) AllReadyH.nil
        have HOW : Hid (v2.ownsRow C 33 2 uf fn ((⟨A.ins, L2, N0 ++ (A.ands.take (i)).map (mvA A 0 B.lats.length), O0⟩ : GrD).ands.flatMap AndD.cells)) := by
         have := HT2.out.a
         rw [← HUF.out, ← HFN.out] at this
         exact this
        have hm3 : C ≤ (v2.alloc (.cells #[.int .i64 (mvF A 0 B.lats.length x), .int .i64 (mvF A 0 B.lats.length y)] 33)).heap.size := by have := HT2.out.size; simp; omega
        refine step_append_lies _ rfl (.tmp 79) (.tmp 99) 28 rfl C 33 il _ 2 16 Try.underlying28 HI.out HZ.out HSI.out HBY.out rfl (by decide) uf fn _ rfl (HOW.out.alloc _) ⟨v2.heap.size, 0, none⟩ 1 1 [.int .i64 (mvF A 0 B.lats.length x), .int .i64 (mvF A 0 B.lats.length y)] rfl rfl (World.news_of_block (heap_new _ _)) (by simp [Value.oneCell']) (by decide) hm1 hm2 hm3 _ rfl ?_
        intro g cap w6 hown hgrow hat hlt6
        have hg6 := grown_trn (World.grownBy_alloc v2 _ _) hgrow
        have hc6 : w6.cell? ⟨gb, 2, none⟩ = some uf := (hg6.cell_far ⟨gb, 2, none⟩ hgv2 (fun e => HFAR.out e.symm)).trans gv2
        have hf6 : w6.frozen? ⟨gb, 2, none⟩ = false := (hg6.frozen_far ⟨gb, 2, none⟩ hgv2 (fun e => HFAR.out e.symm)).trans (frozen_of_row _ _ _ _ _ HT2.out.box)
        have hQ6 : Below C W w6 := hQ2.trans ⟨hg6.os, hg6.tape, hg6.output, hg6.size, fun k hk => hg6.block k (Nat.lt_of_lt_of_le hk HT2.out.size) (fun e => by have := (HOW.out.lt k e.symm).1; omega)⟩
        refine hK.out _ _ (by first | assumption | exact K1.out _ hQ6) (fun hHeldp => ?_)
        clear hK K
        (try simp only [Act.put]); (try simp only [sA]); (try simp only [sB, sC])
        refine tk 23 ?_
        refine wpAnyH_ready (rs := [24]) (by kernel_rfl) (by simp) ?_
        refine AllReadyH.cons (o := _) rfl (fun K hK => ?_) AllReadyH.nil
        (try simp only [gA, gB, gC])
        go_simp
        refine hK.out _ _ (by first | assumption | exact K1.out _ (hQ6.trans (below_of (gset _ _ _ _) HT2.out.base (Nat.le_trans HT2.out.size hg6.size)))) (fun hHelds => ?_)
        clear hK K
        (try simp only [Act.put]); (try simp only [sA]); (try simp only [sB, sC])
        refine wpAnyH_done (by kernel_rfl) ?_ _
        refine NoPanic.normal ?_
        obtain ⟨t1, t2, -⟩ := HT2.out.pusha ⟨mvF A 0 B.lats.length x, mvF A 0 B.lats.length y⟩ (g := g) (cap := cap) (by rw [← HUF.out]; exact hg6) (by rw [← HFN.out]; exact hown) (by
         rw [← HUF.out]
         rcases hat with h | h
         ·exact .inl h
         ·refine .inr ?_
          simp at h
          omega)
        rw [← HFN.out] at t1 t2
        have HQ9 : Hid (Below C W (w6.setCell ⟨gb, 2, none⟩ (.slice (some ⟨g, 0, none⟩) (fn + 1) cap))) := hQ2.trans t2
        have HT9 := hidden t1
        clear t1 t2
        generalize World.setCell w6 _ _ = w9 at HT9 HQ9 ⊢
        have HT9' : Hid (∃ u', TkP C w9 gb A.ins u' (⟨A.ins, L2, N0 ++ (A.ands.take (i + 1)).map (mvA A 0 B.lats.length), O0⟩) []) := by
         show ∃ u', TkP _ _ _ _ _ _ _
         rw [take_next _ i _ HDI.out, List.map_append, ← List.append_assoc]
         exact ⟨_, HT9.out⟩
        clear HT9 hown hgrow hat hlt6 hg6 hc6 hf6 K1 MVC HOW hm3 hQd HTd hQ6 hQ1 HT1 gv1 hgv1 hQ2 HT2 gv2 hgv2 gd
        go_wp2
        go_roundw
        case measure => simp [intOf]; omega
        case rel => exact ⟨i + 1, by omega, by simp, HT9'.out, HQ9.out⟩
       refine AllReadyH.cons (o := _) rfl (fun K hK => ?_) AllReadyH.nil
       (try simp only [gA, gB, gC])
       go_simp
       refine hK.out _ _ (by first | assumption | exact K1.out _ (hQ2.alloc HT2.out.size _)) (fun hHeld21 => ?_)
       clear hK K
       (try simp only [Act.put]); (try simp only [sA]); (try simp only [sB, sC])
       refine wpAnyH_ready (rs := [1]) (by kernel_rfl) (by simp) ?_
       refine AllReadyH.cons (o := _) rfl (fun K hK => ?_) AllReadyH.nil
       (try simp only [gA, gB, gC])
       go_simp
       refine hK.out _ _ (by first | assumption | exact K1.out _ (by assumption)) (fun hHeld1 => ?_)
       clear hK K
       (try simp only [Act.put]); (try simp only [sA]); (try simp only [sB, sC])
       refine wpAnyH_ready (rs := [22]) (by kernel_rfl) (by simp) ?_
       refine AllReadyH.cons (o := _) rfl (fun K hK => ?_) AllReadyH.nil
       have HOW : Hid (v2.ownsRow C 33 2 uf fn ((⟨A.ins, L2, N0 ++ (A.ands.take (i)).map (mvA A 0 B.lats.length), O0⟩ : GrD).ands.flatMap AndD.cells)) := by
        have := HT2.out.a
        rw [← HUF.out, ← HFN.out] at this
        exact this
       have hm3 : C ≤ (v2.alloc (.cells #[.int .i64 (mvF A 0 B.lats.length x), .int .i64 (mvF A 0 B.lats.length y)] 33)).heap.size := by have := HT2.out.size; simp; omega
       refine step_append_lies _ rfl (.tmp 79) (.tmp 99) 28 rfl C 33 il _ 2 16 Try.underlying28 HI.out HZ.out HSI.out HBY.out rfl (by decide) uf fn _ rfl (HOW.out.alloc _) ⟨v2.heap.size, 0, none⟩ 1 1 [.int .i64 (mvF A 0 B.lats.length x), .int .i64 (mvF A 0 B.lats.length y)] rfl rfl (World.news_of_block (heap_new _ _)) (by simp [Value.oneCell']) (by decide) hm1 hm2 hm3 _ rfl ?_
       intro g cap w6 hown hgrow hat hlt6
       have hg6 := grown_trn (World.grownBy_alloc v2 _ _) hgrow
       have hc6 : w6.cell? ⟨gb, 2, none⟩ = some uf := (hg6.cell_far ⟨gb, 2, none⟩ hgv2 (fun e => HFAR.out e.symm)).trans gv2
       have hf6 : w6.frozen? ⟨gb, 2, none⟩ = false := (hg6.frozen_far ⟨gb, 2, none⟩ hgv2 (fun e => HFAR.out e.symm)).trans (frozen_of_row _ _ _ _ _ HT2.out.box)
       have hQ6 : Below C W w6 := hQ2.trans ⟨hg6.os, hg6.tape, hg6.output, hg6.size, fun k hk => hg6.block k (Nat.lt_of_lt_of_le hk HT2.out.size) (fun e => by have := (HOW.out.lt k e.symm).1; omega)⟩
       refine hK.out _ _ (by first | assumption | exact K1.out _ hQ6) (fun hHeldp => ?_)
       clear hK K
       (try simp only [Act.put]); (try simp only [sA]); (try simp only [sB, sC])
       refine tk 23 ?_
       refine wpAnyH_ready (rs := [24]) (by kernel_rfl) (by simp) ?_
       refine AllReadyH.cons (o := _) rfl (fun K hK => ?_) AllReadyH.nil
       (try simp only [gA, gB, gC])
       go_simp
       refine hK.out _ _ (by first | assumption | exact K1.out _ (hQ6.trans (below_of (gset _ _ _ _) HT2.out.base (Nat.le_trans HT2.out.size hg6.size)))) (fun hHelds => ?_)
       clear hK K
       (try simp only [Act.put]); (try simp only [sA]); (try simp only [sB, sC])
       refine wpAnyH_done (by kernel_rfl) ?_ _
       refine NoPanic.normal ?_
       obtain ⟨t1, t2, -⟩ := HT2.out.pusha ⟨mvF A 0 B.lats.length x, mvF A 0 B.lats.length y⟩ (g := g) (cap := cap) (by rw [← HUF.out]; exact hg6) (by rw [← HFN.out]; exact hown) (by
        rw [← HUF.out]
        rcases hat with h | h
        ·exact .inl h
        ·refine .inr ?_
         simp at h
         omega)
       rw [← HFN.out] at t1 t2
       have HQ9 : Hid (Below C W (w6.setCell ⟨gb, 2, none⟩ (.slice (some ⟨g, 0, none⟩) (fn + 1) cap))) := hQ2.trans t2
       have HT9 := hidden t1
       clear t1 t2
       generalize World.setCell w6 _ _ = w9 at HT9 HQ9 ⊢
       have HT9' : Hid (∃ u', TkP C w9 gb A.ins u' (⟨A.ins, L2, N0 ++ (A.ands.take (i + 1)).map (mvA A 0 B.lats.length), O0⟩) []) := by
        show ∃ u', TkP _ _ _ _ _ _ _
        rw [take_next _ i _ HDI.out, List.map_append, ← List.append_assoc]
        exact ⟨_, HT9.out⟩
       clear HT9 hown hgrow hat hlt6 hg6 hc6 hf6 K1 MVC HOW hm3 hQd HTd hQ6 hQ1 HT1 gv1 hgv1 hQ2 HT2 gv2 hgv2 gd
       go_wp2
       go_roundw
       case measure => simp [intOf]; omega
       case rel => exact ⟨i + 1, by omega, by simp, HT9'.out, HQ9.out⟩
      ·have hge : ¬ ((i : Int) < (A.ands.length : Int)) := by omega
       obtain ⟨N1, HN1⟩ : ∃ z, Hid (z = N0 ++ A.ands.map (mvA A 0 B.lats.length)) := ⟨_, rfl⟩
       have hN1 : N1.length ≤ 60000 := by
        rw [HN1.out]
        simp only [List.length_append, List.length_map]
        have := hN0
        have := HOA.out.l1; have := HOA.out.a1; have := HOA.out.o1
        omega
       have HTv3 : Hid (∃ u', TkP C wr gb A.ins u' (⟨A.ins, L2, N1, O0⟩) []) := by
        show ∃ u', TkP _ _ _ _ _ _ _
        rw [HN1.out]
        have := HTk.out
        rw [List.take_of_length_le (by omega)] at this
        exact this
       have HQv3 := HQ0
       clear HTk HQ0
       obtain ⟨V3, hV3⟩ : ∃ z, z = wr := ⟨_, rfl⟩
       rw [← hV3] at HTv3 HQv3 gS ⊢
       clear hV3
       have gS : V3.cell? ⟨pb, 2, none⟩ = some (.slice SB.a2 B.ands.length SB.c2) := (HXB.out.to hpb HQv3.out).c2
       go_wp2_with fail
       clear gS
       go_loopw [9] (fun i' w' => ∃ (i : Nat), i ≤ B.ands.length ∧ i' = .int .i64 i ∧ Hid (∃ u', TkP C w' gb A.ins u' (⟨A.ins, L2, N1 ++ (B.ands.take (i)).map (mvA B A.lats.length (A.lats.length + A.ands.length)), O0⟩) []) ∧ Hid (Below C W w')) (fun i' _ => B.ands.length - (intOf i').toNat)
       case atStart => exact ⟨0, Nat.zero_le _, rfl, by show ∃ u', TkP _ _ _ _ _ _ _; simpa using HTv3.out, HQv3.out⟩
       case round =>
        clear HTv3 HQv3
        obtain ⟨i, hi, rfl, HTk, HQ0⟩ := hrel
        have gS : wr.cell? ⟨pb, 2, none⟩ = some (.slice SB.a2 B.ands.length SB.c2) := (HXB.out.to hpb HQ0.out).c2
        by_cases hlt : i < B.ands.length
        ·obtain ⟨u, ht⟩ := HTk.out
         have HTd : Hid (TkP C wr.drew gb A.ins u (⟨A.ins, L2, N1 ++ (B.ands.take (i)).map (mvA B A.lats.length (A.lats.length + A.ands.length)), O0⟩) []) := ht.rest (Below.drew (Below.refl _ _))
         have hQd : Below C W wr.drew := Below.drew HQ0.out
         clear ht HTk
         have hltI : (i : Int) < (B.ands.length : Int) := by omega
         obtain ⟨d, hd⟩ := getElem_lt hlt
         have HDI := hidden hd
         have hpl : B.ands.length ≤ 60000 := by have := HOB.out.l1; have := HOB.out.a1; have := HOB.out.o1; omega
         obtain ⟨b, o, ea, hlb, hc⟩ := (HGB.out W (Below.refl _ _)).a.el hd
         have hdl : (0 ≤ d.x ∧ d.x ≤ 4000000) ∧ (0 ≤ d.y ∧ d.y ≤ 4000000) := by have := HOB.out.andL d (List.mem_of_getElem? hd); omega
         obtain ⟨x, y⟩ := d
         have y0 : W.cell? ⟨b, o + i * 2, none⟩ = some (.int .i64 x) := hc 0 _ rfl
         have y1 : W.cell? ⟨b, o + i * 2 + 1, none⟩ = some (.int .i64 y) := hc 1 _ rfl
         dsimp only at hdl
         have e3 : IntKind.i64.wrap ((i : Int) + 1) = (i : Int) + 1 := wrapI _ (by omega) (by omega)
         obtain ⟨il, hi', hz', hs', hby'⟩ := info_two
         have HI := hidden hi'
         have HZ := hidden hz'
         have HSI := hidden hs'
         have HBY := hidden hby'
         clear hi' hz' hs' hby'
         have K1 : Hid (∀ w', Below C W w' → (fun w' => w'.cell? ⟨b, o + i * 2, none⟩ = some (.int .i64 x) ∧ w'.cell? ⟨b, o + i * 2 + 1, none⟩ = some (.int .i64 y) ∧ w'.cell? ⟨pa, 0, none⟩ = some (.int .i64 A.ins) ∧ w'.cell? ⟨pa, 1, none⟩ = some (.slice SA.a1 A.lats.length SA.c1) ∧ w'.cell? ⟨pa, 2, none⟩ = some (.slice SA.a2 A.ands.length SA.c2) ∧ w'.cell? ⟨pa, 3, none⟩ = some (.slice SA.a3 A.outs.length SA.c3) ∧ w'.cell? ⟨pb, 0, none⟩ = some (.int .i64 B.ins) ∧ w'.cell? ⟨pb, 1, none⟩ = some (.slice SB.a1 B.lats.length SB.c1) ∧ w'.cell? ⟨pb, 2, none⟩ = some (.slice (some ⟨b, o, none⟩) B.ands.length SB.c2) ∧ w'.cell? ⟨pb, 3, none⟩ = some (.slice SB.a3 B.outs.length SB.c3)) w') := fun w' hb => by
          have ha := HXA.out.to hpa hb
          have hb' := HXB.out.to hpb hb
          exact ⟨(hb.cell (p := ⟨b, o + i * 2, none⟩) hlb).trans y0, (hb.cell (p := ⟨b, o + i * 2 + 1, none⟩) hlb).trans y1, ha.c0, ha.c1, ha.c2, ha.c3, hb'.c0, hb'.c1, by rw [← ea]; exact hb'.c2, hb'.c3⟩
         have MVC : Hid (∀ (l : Int) (w' : World), 0 ≤ l ∧ l ≤ 4000000 → Calls Try.prog 51 #[.agg #[.int .i64 A.ins, .slice SA.a1 A.lats.length SA.c1, .slice SA.a2 A.ands.length SA.c2, .slice SA.a3 A.outs.length SA.c3], .agg #[.int .i64 B.ins, .slice SB.a1 B.lats.length SB.c1, .slice (some ⟨b, o, none⟩) B.ands.length SB.c2, .slice SB.a3 B.outs.length SB.c3], .int .i64 l] w' fun e w'' => e = .returned (.int .i64 (mvF B A.lats.length (A.lats.length + A.ands.length) l)) ∧ Below w'.heap.size w' w'') := fun l w' hl => by
          rw [← ea]; exact moved_doc w' SA SB A B HOA.out HOB.out l hl
         obtain ⟨uf, HUF⟩ : ∃ x, Hid (x = u 2) := ⟨_, rfl⟩
         obtain ⟨fn, HFN⟩ : ∃ x : Nat, Hid (x = (⟨A.ins, L2, N1 ++ (B.ands.take (i)).map (mvA B A.lats.length (A.lats.length + A.ands.length)), O0⟩ : GrD).ands.length) := ⟨_, rfl⟩
         have gd : wr.drew.cell? ⟨gb, 2, none⟩ = some uf := by rw [HUF.out]; exact HTd.out.fld 2 (by decide)
         have HFAR : Hid (uf.ownBlock ≠ some gb) := by rw [HUF.out]; exact HTd.out.nb 2
         have hfn : fn ≤ 400000 := by
          rw [HFN.out]
          simp only [List.length_append, List.length_map, List.length_take]
          have := hN1
          omega
         have hm1 : fn + 1 ≤ maxLen := by simp only [maxLen]; omega
         have hm2 : (fn + 1) * 16 ≤ 140737488355328 := by omega
         rw [ea] at gS
         clear hd hc hlb ea y0 y1
         go_upto_region 17 with fail
         clear gS
         refine wp_region_noPanic ?_
         refine wp_region_held_drew (S := (fun w' => w'.cell? ⟨b, o + i * 2, none⟩ = some (.int .i64 x) ∧ w'.cell? ⟨b, o + i * 2 + 1, none⟩ = some (.int .i64 y) ∧ w'.cell? ⟨pa, 0, none⟩ = some (.int .i64 A.ins) ∧ w'.cell? ⟨pa, 1, none⟩ = some (.slice SA.a1 A.lats.length SA.c1) ∧ w'.cell? ⟨pa, 2, none⟩ = some (.slice SA.a2 A.ands.length SA.c2) ∧ w'.cell? ⟨pa, 3, none⟩ = some (.slice SA.a3 A.outs.length SA.c3) ∧ w'.cell? ⟨pb, 0, none⟩ = some (.int .i64 B.ins) ∧ w'.cell? ⟨pb, 1, none⟩ = some (.slice SB.a1 B.lats.length SB.c1) ∧ w'.cell? ⟨pb, 2, none⟩ = some (.slice (some ⟨b, o, none⟩) B.ands.length SB.c2) ∧ w'.cell? ⟨pb, 3, none⟩ = some (.slice SB.a3 B.outs.length SB.c3))) (by kernel_rfl) (by first | exact K1.out _ hQd | first | assumption | exact K1.out _ (by assumption)) (fun hHeld => ?_)
         refine tk 0 ?_
         refine tk 2 ?_
         refine tk 3 ?_
         refine tk 4 ?_
         refine tk 5 ?_
         refine tk 6 ?_
         refine tk 7 ?_
         refine tk 8 ?_
         refine tk 9 ?_
         refine tk 11 ?_
         refine tk 12 ?_
         refine tk 13 ?_
         refine tk 14 ?_
         refine tk 15 ?_
         refine tk 16 ?_
         refine tk 17 ?_
         refine tk 18 ?_
         refine wpAnyH_ready (rs := [1, 10]) (by kernel_rfl) (by simp) ?_
         refine AllReadyH.cons (o := _) rfl (fun K hK => ?_) ?_
         ·(try simp only [gA, gB, gC])
          go_simp
          refine hK.out _ _ (by first | assumption | exact K1.out _ (by assumption)) (fun hHeld1 => ?_)
          clear hK K
          (try simp only [Act.put]); (try simp only [sA]); (try simp only [sB, sC])
          refine wpAnyH_ready (rs := [10]) (by kernel_rfl) (by simp) ?_
          refine AllReadyH.cons (o := _) rfl (fun K hK => ?_) AllReadyH.nil
          (try simp only [gA, gB, gC])
          go_simp
          go_at_call 51
          refine (MVC.out x _ hdl.1).mono ?_
          rintro e v1 ⟨rfl, hbx1⟩
          have hQ1 : Below C W v1 := hQd.trans (hbx1.mono HTd.out.size)
          have HT1 := hidden (HTd.out.rest hbx1)
          have gv1 : v1.cell? ⟨gb, 2, none⟩ = some uf := by rw [HUF.out]; exact HT1.out.fld 2 (by decide)
          have hgv1 : gb < v1.heap.size := HT1.out.lt
          clear hbx1
          go_wp2_with fail
          refine hK.out _ _ (by first | assumption | exact K1.out _ (by assumption)) (fun hHeld10 => ?_)
          clear hK K
          (try simp only [Act.put]); (try simp only [sA]); (try simp only [sB, sC])
          refine wpAnyH_ready (rs := [19]) (by kernel_rfl) (by simp) ?_
          refine AllReadyH.cons (o := _) rfl (fun K hK => ?_) AllReadyH.nil
          (try simp only [gA, gB, gC])
          go_simp
          go_at_call 51
          refine (MVC.out y _ hdl.2).mono ?_
          rintro e v2 ⟨rfl, hbx2⟩
          have hQ2 : Below C W v2 := hQ1.trans (hbx2.mono HT1.out.size)
          have HT2 := hidden (HT1.out.rest hbx2)
          have gv2 : v2.cell? ⟨gb, 2, none⟩ = some uf := by rw [HUF.out]; exact HT2.out.fld 2 (by decide)
          have hgv2 : gb < v2.heap.size := HT2.out.lt
          clear hbx2
          go_wp2_with fail
          refine hK.out _ _ (by first | assumption | exact K1.out _ (by assumption)) (fun hHeld19 => ?_)
          clear hK K
          (try simp only [Act.put]); (try simp only [sA]); (try simp only [sB, sC])
          refine tk 20 ?_
          refine wpAnyH_ready (rs := [21]) (by kernel_rfl) (by simp) ?_
          refine AllReadyH.cons (o := _) rfl (fun K hK => ?_) AllReadyH.nil
          (try simp only [gA, gB, gC])
          go_simp
          refine hK.out _ _ (by first | assumption | exact K1.out _ (hQ2.alloc HT2.out.size _)) (fun hHeld21 => ?_)
          clear hK K
          (try simp only [Act.put]); (try simp only [sA]); (try simp only [sB, sC])
          refine wpAnyH_ready (rs := [22]) (by kernel_rfl) (by simp) ?_
          refine AllReadyH.cons (o := _) rfl (fun K hK => ?_) AllReadyH.nil
          have HOW : Hid (v2.ownsRow C 33 2 uf fn ((⟨A.ins, L2, N1 ++ (B.ands.take (i)).map (mvA B A.lats.length (A.lats.length + A.ands.length)), O0⟩ : GrD).ands.flatMap AndD.cells)) := by
           have := HT2.out.a
           rw [← HUF.out, ← HFN.out] at this
           exact this
          have hm3 : C ≤ (v2.alloc (.cells #[.int .i64 (mvF B A.lats.length (A.lats.length + A.ands.length) x), .int .i64 (mvF B A.lats.length (A.lats.length + A.ands.length) y)] 33)).heap.size := by have := HT2.out.size; simp; omega
          refine step_append_lies _ rfl (.tmp 110) (.tmp 130) 28 rfl C 33 il _ 2 16 Try.underlying28 HI.out HZ.out HSI.out HBY.out rfl (by decide) uf fn _ rfl (HOW.out.alloc _) ⟨v2.heap.size, 0, none⟩ 1 1 [.int .i64 (mvF B A.lats.length (A.lats.length + A.ands.length) x), .int .i64 (mvF B A.lats.length (A.lats.length + A.ands.length) y)] rfl rfl (World.news_of_block (heap_new _ _)) (by simp [Value.oneCell']) (by decide) hm1 hm2 hm3 _ rfl ?_
          intro g cap w6 hown hgrow hat hlt6
          have hg6 := grown_trn (World.grownBy_alloc v2 _ _) hgrow
          have hc6 : w6.cell? ⟨gb, 2, none⟩ = some uf := (hg6.cell_far ⟨gb, 2, none⟩ hgv2 (fun e => HFAR.out e.symm)).trans gv2
          have hf6 : w6.frozen? ⟨gb, 2, none⟩ = false := (hg6.frozen_far ⟨gb, 2, none⟩ hgv2 (fun e => HFAR.out e.symm)).trans (frozen_of_row _ _ _ _ _ HT2.out.box)
          have hQ6 : Below C W w6 := hQ2.trans ⟨hg6.os, hg6.tape, hg6.output, hg6.size, fun k hk => hg6.block k (Nat.lt_of_lt_of_le hk HT2.out.size) (fun e => by have := (HOW.out.lt k e.symm).1; omega)⟩
          refine hK.out _ _ (by first | assumption | exact K1.out _ hQ6) (fun hHeldp => ?_)
          clear hK K
          (try simp only [Act.put]); (try simp only [sA]); (try simp only [sB, sC])
          refine tk 23 ?_
          refine wpAnyH_ready (rs := [24]) (by kernel_rfl) (by simp) ?_
          refine AllReadyH.cons (o := _) rfl (fun K hK => ?_) AllReadyH.nil
          (try simp only [gA, gB, gC])
          go_simp
          refine hK.out _ _ (by first | assumption | exact K1.out _ (hQ6.trans (below_of (gset _ _ _ _) HT2.out.base (Nat.le_trans HT2.out.size hg6.size)))) (fun hHelds => ?_)
          clear hK K
          (try simp only [Act.put]); (try simp only [sA]); (try simp only [sB, sC])
          refine wpAnyH_done (by kernel_rfl) ?_ _
          refine NoPanic.normal ?_
          obtain ⟨t1, t2, -⟩ := HT2.out.pusha ⟨mvF B A.lats.length (A.lats.length + A.ands.length) x, mvF B A.lats.length (A.lats.length + A.ands.length) y⟩ (g := g) (cap := cap) (by rw [← HUF.out]; exact hg6) (by rw [← HFN.out]; exact hown) (by
           rw [← HUF.out]
           rcases hat with h | h
           ·exact .inl h
           ·refine .inr ?_
            simp at h
            omega)
          rw [← HFN.out] at t1 t2
          have HQ9 : Hid (Below C W (w6.setCell ⟨gb, 2, none⟩ (.slice (some ⟨g, 0, none⟩) (fn + 1) cap))) := hQ2.trans t2
          have HT9 := hidden t1
          clear t1 t2
          generalize World.setCell w6 _ _ = w9 at HT9 HQ9 ⊢
          have HT9' : Hid (∃ u', TkP C w9 gb A.ins u' (⟨A.ins, L2, N1 ++ (B.ands.take (i + 1)).map (mvA B A.lats.length (A.lats.length + A.ands.length)), O0⟩) []) := by
           show ∃ u', TkP _ _ _ _ _ _ _
           rw [take_next _ i _ HDI.out, List.map_append, ← List.append_assoc]
           exact ⟨_, HT9.out⟩
          clear HT9 hown hgrow hat hlt6 hg6 hc6 hf6 K1 MVC HOW hm3 hQd HTd hQ6 hQ1 HT1 gv1 hgv1 hQ2 HT2 gv2 hgv2 gd
          go_wp2
          go_roundw
          case measure => simp [intOf]; omega
          case rel => exact ⟨i + 1, by omega, by simp, HT9'.out, HQ9.out⟩
         refine AllReadyH.cons (o := _) rfl (fun K hK => ?_) AllReadyH.nil
         (try simp only [gA, gB, gC])
         go_simp
         go_at_call 51
         refine (MVC.out x _ hdl.1).mono ?_
         rintro e v1 ⟨rfl, hbx1⟩
         have hQ1 : Below C W v1 := hQd.trans (hbx1.mono HTd.out.size)
         have HT1 := hidden (HTd.out.rest hbx1)
         have gv1 : v1.cell? ⟨gb, 2, none⟩ = some uf := by rw [HUF.out]; exact HT1.out.fld 2 (by decide)
         have hgv1 : gb < v1.heap.size := HT1.out.lt
         clear hbx1
         go_wp2_with fail
         refine hK.out _ _ (by first | assumption | exact K1.out _ (by assumption)) (fun hHeld10 => ?_)
         clear hK K
         (try simp only [Act.put]); (try simp only [sA]); (try simp only [sB, sC])
         refine wpAnyH_ready (rs := [1, 19]) (by kernel_rfl) (by simp) ?_
         refine AllReadyH.cons (o := _) rfl (fun K hK => ?_) ?_
         ·(try simp only [gA, gB, gC])
          go_simp
          refine hK.out _ _ (by first | assumption | exact K1.out _ (by assumption)) (fun hHeld1 => ?_)
          clear hK K
          (try simp only [Act.put]); (try simp only [sA]); (try simp only [sB, sC])
          refine wpAnyH_ready (rs := [19]) (by kernel_rfl) (by simp) ?_
          refine AllReadyH.cons (o := _) rfl (fun K hK => ?_) AllReadyH.nil
          (try simp only [gA, gB, gC])
          go_simp
          go_at_call 51
          refine (MVC.out y _ hdl.2).mono ?_
          rintro e v2 ⟨rfl, hbx2⟩
          have hQ2 : Below C W v2 := hQ1.trans (hbx2.mono HT1.out.size)
          have HT2 := hidden (HT1.out.rest hbx2)
          have gv2 : v2.cell? ⟨gb, 2, none⟩ = some uf := by rw [HUF.out]; exact HT2.out.fld 2 (by decide)
          have hgv2 : gb < v2.heap.size := HT2.out.lt
          clear hbx2
          go_wp2_with fail
          refine hK.out _ _ (by first | assumption | exact K1.out _ (by assumption)) (fun hHeld19 => ?_)
          clear hK K
          (try simp only [Act.put]); (try simp only [sA]); (try simp only [sB, sC])
          refine tk 20 ?_
          refine wpAnyH_ready (rs := [21]) (by kernel_rfl) (by simp) ?_
          refine AllReadyH.cons (o := _) rfl (fun K hK => ?_) AllReadyH.nil
          (try simp only [gA, gB, gC])
          go_simp
          refine hK.out _ _ (by first | assumption | exact K1.out _ (hQ2.alloc HT2.out.size _)) (fun hHeld21 => ?_)
          clear hK K
          (try simp only [Act.put]); (try simp only [sA]); (try simp only [sB, sC])
          refine wpAnyH_ready (rs := [22]) (by kernel_rfl) (by simp) ?_
          refine AllReadyH.cons (o := _) rfl (fun K hK => ?_) AllReadyH.nil
          have HOW : Hid (v2.ownsRow C 33 2 uf fn ((⟨A.ins, L2, N1 ++ (B.ands.take (i)).map (mvA B A.lats.length (A.lats.length + A.ands.length)), O0⟩ : GrD).ands.flatMap AndD.cells)) := by
           have := HT2.out.a
           rw [← HUF.out, ← HFN.out] at this
           exact this
          have hm3 : C ≤ (v2.alloc (.cells #[.int .i64 (mvF B A.lats.length (A.lats.length + A.ands.length) x), .int .i64 (mvF B A.lats.length (A.lats.length + A.ands.length) y)] 33)).heap.size := by have := HT2.out.size; simp; omega
          refine step_append_lies _ rfl (.tmp 110) (.tmp 130) 28 rfl C 33 il _ 2 16 Try.underlying28 HI.out HZ.out HSI.out HBY.out rfl (by decide) uf fn _ rfl (HOW.out.alloc _) ⟨v2.heap.size, 0, none⟩ 1 1 [.int .i64 (mvF B A.lats.length (A.lats.length + A.ands.length) x), .int .i64 (mvF B A.lats.length (A.lats.length + A.ands.length) y)] rfl rfl (World.news_of_block (heap_new _ _)) (by simp [Value.oneCell']) (by decide) hm1 hm2 hm3 _ rfl ?_
          intro g cap w6 hown hgrow hat hlt6
          have hg6 := grown_trn (World.grownBy_alloc v2 _ _) hgrow
          have hc6 : w6.cell? ⟨gb, 2, none⟩ = some uf := (hg6.cell_far ⟨gb, 2, none⟩ hgv2 (fun e => HFAR.out e.symm)).trans gv2
          have hf6 : w6.frozen? ⟨gb, 2, none⟩ = false := (hg6.frozen_far ⟨gb, 2, none⟩ hgv2 (fun e => HFAR.out e.symm)).trans (frozen_of_row _ _ _ _ _ HT2.out.box)
          have hQ6 : Below C W w6 := hQ2.trans ⟨hg6.os, hg6.tape, hg6.output, hg6.size, fun k hk => hg6.block k (Nat.lt_of_lt_of_le hk HT2.out.size) (fun e => by have := (HOW.out.lt k e.symm).1; omega)⟩
          refine hK.out _ _ (by first | assumption | exact K1.out _ hQ6) (fun hHeldp => ?_)
          clear hK K
          (try simp only [Act.put]); (try simp only [sA]); (try simp only [sB, sC])
          refine tk 23 ?_
          refine wpAnyH_ready (rs := [24]) (by kernel_rfl) (by simp) ?_
          refine AllReadyH.cons (o := _) rfl (fun K hK => ?_) AllReadyH.nil
          (try simp only [gA, gB, gC])
          go_simp
          refine hK.out _ _ (by first | assumption | exact K1.out _ (hQ6.trans (below_of (gset _ _ _ _) HT2.out.base (Nat.le_trans HT2.out.size hg6.size)))) (fun hHelds => ?_)
          clear hK K
          (try simp only [Act.put]); (try simp only [sA]); (try simp only [sB, sC])
          refine wpAnyH_done (by kernel_rfl) ?_ _
          refine NoPanic.normal ?_
          obtain ⟨t1, t2, -⟩ := HT2.out.pusha ⟨mvF B A.lats.length (A.lats.length + A.ands.length) x, mvF B A.lats.length (A.lats.length + A.ands.length) y⟩ (g := g) (cap := cap) (by rw [← HUF.out]; exact hg6) (by rw [← HFN.out]; exact hown) (by
           rw [← HUF.out]
           rcases hat with h | h
           ·exact .inl h
           ·refine .inr ?_
            simp at h
            omega)
          rw [← HFN.out] at t1 t2
          have HQ9 : Hid (Below C W (w6.setCell ⟨gb, 2, none⟩ (.slice (some ⟨g, 0, none⟩) (fn + 1) cap))) := hQ2.trans t2
          have HT9 := hidden t1
          clear t1 t2
          generalize World.setCell w6 _ _ = w9 at HT9 HQ9 ⊢
          have HT9' : Hid (∃ u', TkP C w9 gb A.ins u' (⟨A.ins, L2, N1 ++ (B.ands.take (i + 1)).map (mvA B A.lats.length (A.lats.length + A.ands.length)), O0⟩) []) := by
           show ∃ u', TkP _ _ _ _ _ _ _
           rw [take_next _ i _ HDI.out, List.map_append, ← List.append_assoc]
           exact ⟨_, HT9.out⟩
          clear HT9 hown hgrow hat hlt6 hg6 hc6 hf6 K1 MVC HOW hm3 hQd HTd hQ6 hQ1 HT1 gv1 hgv1 hQ2 HT2 gv2 hgv2 gd
          go_wp2
          go_roundw
          case measure => simp [intOf]; omega
          case rel => exact ⟨i + 1, by omega, by simp, HT9'.out, HQ9.out⟩
         refine AllReadyH.cons (o := _) rfl (fun K hK => ?_) AllReadyH.nil
         (try simp only [gA, gB, gC])
         go_simp
         go_at_call 51
         refine (MVC.out y _ hdl.2).mono ?_
         rintro e v2 ⟨rfl, hbx2⟩
         have hQ2 : Below C W v2 := hQ1.trans (hbx2.mono HT1.out.size)
         have HT2 := hidden (HT1.out.rest hbx2)
         have gv2 : v2.cell? ⟨gb, 2, none⟩ = some uf := by rw [HUF.out]; exact HT2.out.fld 2 (by decide)
         have hgv2 : gb < v2.heap.size := HT2.out.lt
         clear hbx2
         go_wp2_with fail
         refine hK.out _ _ (by first | assumption | exact K1.out _ (by assumption)) (fun hHeld19 => ?_)
         clear hK K
         (try simp only [Act.put]); (try simp only [sA]); (try simp only [sB, sC])
         refine tk 20 ?_
         refine wpAnyH_ready (rs := [1, 21]) (by kernel_rfl) (by simp) ?_
         refine AllReadyH.cons (o := _) rfl (fun K hK => ?_) ?_
         ·(try simp only [gA, gB, gC])
          go_simp
          refine hK.out _ _ (by first | assumption | exact K1.out _ (by assumption)) (fun hHeld1 => ?_)
          clear hK K
          (try simp only [Act.put]); (try simp only [sA]); (try simp only [sB, sC])
          refine wpAnyH_ready (rs := [21]) (by kernel_rfl) (by simp) ?_
          refine AllReadyH.cons (o := _) rfl (fun K hK => ?_) AllReadyH.nil
          (try simp only [gA, gB, gC])
          go_simp
          refine hK.out _ _ (by first | assumption | exact K1.out _ (hQ2.alloc HT2.out.size _)) (fun hHeld21 => ?_)
          clear hK K
          (try simp only [Act.put]); (try simp only [sA]); (try simp only [sB, sC])
          refine wpAnyH_ready (rs := [22]) (by kernel_rfl) (by simp) ?_
          refine AllReadyH.cons (o := _) rfl (fun K hK => ?_) AllReadyH.nil
          have HOW : Hid (v2.ownsRow C 33 2 uf fn ((⟨A.ins, L2, N1 ++ (B.ands.take (i)).map (mvA B A.lats.length (A.lats.length + A.ands.length)), O0⟩ : GrD).ands.flatMap AndD.cells)) := by
           have := HT2.out.a
           rw [← HUF.out, ← HFN.out] at this
           exact this
          have hm3 : C ≤ (v2.alloc (.cells #[.int .i64 (mvF B A.lats.length (A.lats.length + A.ands.length) x), .int .i64 (mvF B A.lats.length (A.lats.length + A.ands.length) y)] 33)).heap.size := by have := HT2.out.size; simp; omega
          refine step_append_lies _ rfl (.tmp 110) (.tmp 130) 28 rfl C 33 il _ 2 16 Try.underlying28 HI.out HZ.out HSI.out HBY.out rfl (by decide) uf fn _ rfl (HOW.out.alloc _) ⟨v2.heap.size, 0, none⟩ 1 1 [.int .i64 (mvF B A.lats.length (A.lats.length + A.ands.length) x), .int .i64 (mvF B A.lats.length (A.lats.length + A.ands.length) y)] rfl rfl (World.news_of_block (heap_new _ _)) (by simp [Value.oneCell']) (by decide) hm1 hm2 hm3 _ rfl ?_
          intro g cap w6 hown hgrow hat hlt6
          have hg6 := grown_trn (World.grownBy_alloc v2 _ _) hgrow
          have hc6 : w6.cell? ⟨gb, 2, none⟩ = some uf := (hg6.cell_far ⟨gb, 2, none⟩ hgv2 (fun e => HFAR.out e.symm)).trans gv2
          have hf6 : w6.frozen? ⟨gb, 2, none⟩ = false := (hg6.frozen_far ⟨gb, 2, none⟩ hgv2 (fun e => HFAR.out e.symm)).trans (frozen_of_row _ _ _ _ _ HT2.out.box)
          have hQ6 : Below C W w6 := hQ2.trans ⟨hg6.os, hg6.tape, hg6.output, hg6.size, fun k hk => hg6.block k (Nat.lt_of_lt_of_le hk HT2.out.size) (fun e => by have := (HOW.out.lt k e.symm).1; omega)⟩
          refine hK.out _ _ (by first | assumption | exact K1.out _ hQ6) (fun hHeldp => ?_)
          clear hK K
          (try simp only [Act.put]); (try simp only [sA]); (try simp only [sB, sC])
          refine tk 23 ?_
          refine wpAnyH_ready (rs := [24]) (by kernel_rfl) (by simp) ?_
          refine AllReadyH.cons (o := _) rfl (fun K hK => ?_) AllReadyH.nil
          (try simp only [gA, gB, gC])
          go_simp
          refine hK.out _ _ (by first | assumption | exact K1.out _ (hQ6.trans (below_of (gset _ _ _ _) HT2.out.base (Nat.le_trans HT2.out.size hg6.size)))) (fun hHelds => ?_)
          clear hK K
          (try simp only [Act.put]); (try simp only [sA]); (try simp only [sB, sC])
          refine wpAnyH_done (by kernel_rfl) ?_ _
          refine NoPanic.normal ?_
          obtain ⟨t1, t2, -⟩ := HT2.out.pusha ⟨mvF B A.lats.length (A.lats.length + A.ands.length) x, mvF B A.lats.length (A.lats.length + A.ands.length) y⟩ (g := g) (cap := cap) (by rw [← HUF.out]; exact hg6) (by rw [← HFN.out]; exact hown) (by
           rw [← HUF.out]
           rcases hat with h | h
           ·exact .inl h
           ·refine .inr ?_
            simp at h
            omega)
          rw [← HFN.out] at t1 t2
          have HQ9 : Hid (Below C W (w6.setCell ⟨gb, 2, none⟩ (.slice (some ⟨g, 0, none⟩) (fn + 1) cap))) := hQ2.trans t2
          have HT9 := hidden t1
          clear t1 t2
          generalize World.setCell w6 _ _ = w9 at HT9 HQ9 ⊢
          have HT9' : Hid (∃ u', TkP C w9 gb A.ins u' (⟨A.ins, L2, N1 ++ (B.ands.take (i + 1)).map (mvA B A.lats.length (A.lats.length + A.ands.length)), O0⟩) []) := by
           show ∃ u', TkP _ _ _ _ _ _ _
           rw [take_next _ i _ HDI.out, List.map_append, ← List.append_assoc]
           exact ⟨_, HT9.out⟩
          clear HT9 hown hgrow hat hlt6 hg6 hc6 hf6 K1 MVC HOW hm3 hQd HTd hQ6 hQ1 HT1 gv1 hgv1 hQ2 HT2 gv2 hgv2 gd
          go_wp2
          go_roundw
          case measure => simp [intOf]; omega
          case rel => exact ⟨i + 1, by omega, by simp, HT9'.out, HQ9.out⟩
         refine AllReadyH.cons (o := _) rfl (fun K hK => ?_) AllReadyH.nil
         (try simp only [gA, gB, gC])
         go_simp
         refine hK.out _ _ (by first | assumption | exact K1.out _ (hQ2.alloc HT2.out.size _)) (fun hHeld21 => ?_)
         clear hK K
         (try simp only [Act.put]); (try simp only [sA]); (try simp only [sB, sC])
         refine wpAnyH_ready (rs := [1]) (by kernel_rfl) (by simp) ?_
         refine AllReadyH.cons (o := _) rfl (fun K hK => ?_) AllReadyH.nil
         (try simp only [gA, gB, gC])
         go_simp
         refine hK.out _ _ (by first | assumption | exact K1.out _ (by assumption)) (fun hHeld1 => ?_)
         clear hK K
         (try simp only [Act.put]); (try simp only [sA]); (try simp only [sB, sC])
         refine wpAnyH_ready (rs := [22]) (by kernel_rfl) (by simp) ?_
         refine AllReadyH.cons (o := _) rfl (fun K hK => ?_) AllReadyH.nil
         have HOW : Hid (v2.ownsRow C 33 2 uf fn ((⟨A.ins, L2, N1 ++ (B.ands.take (i)).map (mvA B A.lats.length (A.lats.length + A.ands.length)), O0⟩ : GrD).ands.flatMap AndD.cells)) := by
          have := HT2.out.a
          rw [← HUF.out, ← HFN.out] at this
          exact this
         have hm3 : C ≤ (v2.alloc (.cells #[.int .i64 (mvF B A.lats.length (A.lats.length + A.ands.length) x), .int .i64 (mvF B A.lats.length (A.lats.length + A.ands.length) y)] 33)).heap.size := by have := HT2.out.size; simp; omega
         refine step_append_lies _ rfl (.tmp 110) (.tmp 130) 28 rfl C 33 il _ 2 16 Try.underlying28 HI.out HZ.out HSI.out HBY.out rfl (by decide) uf fn _ rfl (HOW.out.alloc _) ⟨v2.heap.size, 0, none⟩ 1 1 [.int .i64 (mvF B A.lats.length (A.lats.length + A.ands.length) x), .int .i64 (mvF B A.lats.length (A.lats.length + A.ands.length) y)] rfl rfl (World.news_of_block (heap_new _ _)) (by simp [Value.oneCell']) (by decide) hm1 hm2 hm3 _ rfl ?_
         intro g cap w6 hown hgrow hat hlt6
         have hg6 := grown_trn (World.grownBy_alloc v2 _ _) hgrow
         have hc6 : w6.cell? ⟨gb, 2, none⟩ = some uf := (hg6.cell_far ⟨gb, 2, none⟩ hgv2 (fun e => HFAR.out e.symm)).trans gv2
         have hf6 : w6.frozen? ⟨gb, 2, none⟩ = false := (hg6.frozen_far ⟨gb, 2, none⟩ hgv2 (fun e => HFAR.out e.symm)).trans (frozen_of_row _ _ _ _ _ HT2.out.box)
         have hQ6 : Below C W w6 := hQ2.trans ⟨hg6.os, hg6.tape, hg6.output, hg6.size, fun k hk => hg6.block k (Nat.lt_of_lt_of_le hk HT2.out.size) (fun e => by have := (HOW.out.lt k e.symm).1; omega)⟩
         refine hK.out _ _ (by first | assumption | exact K1.out _ hQ6) (fun hHeldp => ?_)
         clear hK K
         (try simp only [Act.put]); (try simp only [sA]); (try simp only [sB, sC])
         refine tk 23 ?_
         refine wpAnyH_ready (rs := [24]) (by kernel_rfl) (by simp) ?_
         refine AllReadyH.cons (o := _) rfl (fun K hK => ?_) AllReadyH.nil
         (try simp only [gA, gB, gC])
         go_simp
         refine hK.out _ _ (by first | assumption | exact K1.out _ (hQ6.trans (below_of (gset _ _ _ _) HT2.out.base (Nat.le_trans HT2.out.size hg6.size)))) (fun hHelds => ?_)
         clear hK K
         (try simp only [Act.put]); (try simp only [sA]); (try simp only [sB, sC])
         refine wpAnyH_done (by kernel_rfl) ?_ _
         refine NoPanic.normal ?_
         obtain ⟨t1, t2, -⟩ := HT2.out.pusha ⟨mvF B A.lats.length (A.lats.length + A.ands.length) x, mvF B A.lats.length (A.lats.length + A.ands.length) y⟩ (g := g) (cap := cap) (by rw [← HUF.out]; exact hg6) (by rw [← HFN.out]; exact hown) (by
          rw [← HUF.out]
          rcases hat with h | h
          ·exact .inl h
          ·refine .inr ?_
           simp at h
           omega)
         rw [← HFN.out] at t1 t2
         have HQ9 : Hid (Below C W (w6.setCell ⟨gb, 2, none⟩ (.slice (some ⟨g, 0, none⟩) (fn + 1) cap))) := hQ2.trans t2
         have HT9 := hidden t1
         clear t1 t2
         generalize World.setCell w6 _ _ = w9 at HT9 HQ9 ⊢
         have HT9' : Hid (∃ u', TkP C w9 gb A.ins u' (⟨A.ins, L2, N1 ++ (B.ands.take (i + 1)).map (mvA B A.lats.length (A.lats.length + A.ands.length)), O0⟩) []) := by
          show ∃ u', TkP _ _ _ _ _ _ _
          rw [take_next _ i _ HDI.out, List.map_append, ← List.append_assoc]
          exact ⟨_, HT9.out⟩
         clear HT9 hown hgrow hat hlt6 hg6 hc6 hf6 K1 MVC HOW hm3 hQd HTd hQ6 hQ1 HT1 gv1 hgv1 hQ2 HT2 gv2 hgv2 gd
         go_wp2
         go_roundw
         case measure => simp [intOf]; omega
         case rel => exact ⟨i + 1, by omega, by simp, HT9'.out, HQ9.out⟩
        ·have hge : ¬ ((i : Int) < (B.ands.length : Int)) := by omega
         obtain ⟨N2, HN2⟩ : ∃ z, Hid (z = N1 ++ B.ands.map (mvA B A.lats.length (A.lats.length + A.ands.length))) := ⟨_, rfl⟩
         have hN2 : N2.length ≤ 120000 := by
          rw [HN2.out]
          simp only [List.length_append, List.length_map]
          have := hN1
          have := HOB.out.l1; have := HOB.out.a1; have := HOB.out.o1
          omega
         have HTv4 : Hid (∃ u', TkP C wr gb A.ins u' (⟨A.ins, L2, N2, O0⟩) []) := by
          show ∃ u', TkP _ _ _ _ _ _ _
          rw [HN2.out]
          have := HTk.out
          rw [List.take_of_length_le (by omega)] at this
          exact this
         have HQv4 := HQ0
         clear HTk HQ0
         obtain ⟨V4, hV4⟩ : ∃ z, z = wr := ⟨_, rfl⟩
         rw [← hV4] at HTv4 HQv4 gS ⊢
         clear hV4
         have gS : V4.cell? ⟨pa, 3, none⟩ = some (.slice SA.a3 A.outs.length SA.c3) := (HXA.out.to hpa HQv4.out).c3
         go_wp2_with fail
         clear gS
         go_loopw [10] (fun i' w' => ∃ (i : Nat), i ≤ A.outs.length ∧ i' = .int .i64 i ∧ Hid (∃ u', TkP C w' gb A.ins u' (⟨A.ins, L2, N2, O0 ++ (A.outs.take (i)).map (mvF A 0 B.lats.length)⟩) []) ∧ Hid (Below C W w')) (fun i' _ => A.outs.length - (intOf i').toNat)
         case atStart => exact ⟨0, Nat.zero_le _, rfl, by show ∃ u', TkP _ _ _ _ _ _ _; simpa using HTv4.out, HQv4.out⟩
         case round =>
          clear HTv4 HQv4
          obtain ⟨i, hi, rfl, HTk, HQ0⟩ := hrel
          have gS : wr.cell? ⟨pa, 3, none⟩ = some (.slice SA.a3 A.outs.length SA.c3) := (HXA.out.to hpa HQ0.out).c3
          by_cases hlt : i < A.outs.length
          ·obtain ⟨u, ht⟩ := HTk.out
           have HTd : Hid (TkP C wr.drew gb A.ins u (⟨A.ins, L2, N2, O0 ++ (A.outs.take (i)).map (mvF A 0 B.lats.length)⟩) []) := ht.rest (Below.drew (Below.refl _ _))
           have hQd : Below C W wr.drew := Below.drew HQ0.out
           clear ht HTk
           have hltI : (i : Int) < (A.outs.length : Int) := by omega
           obtain ⟨d, hd⟩ := getElem_lt hlt
           have HDI := hidden hd
           have hpl : A.outs.length ≤ 60000 := by have := HOA.out.l1; have := HOA.out.a1; have := HOA.out.o1; omega
           obtain ⟨b, o, ea, hlb, hc⟩ := (HGA.out W (Below.refl _ _)).o.el hd
           have hdl : 0 ≤ d ∧ d ≤ 4000000 := by have := HOA.out.outL d (List.mem_of_getElem? hd); omega
           have y0 := hc 0 _ rfl
           simp only [Nat.mul_one, Nat.add_zero] at y0
           have e3 : IntKind.i64.wrap ((i : Int) + 1) = (i : Int) + 1 := wrapI _ (by omega) (by omega)
           obtain ⟨il, hi', hz', hs', hby'⟩ := info_int
           have HI := hidden hi'
           have HZ := hidden hz'
           have HSI := hidden hs'
           have HBY := hidden hby'
           clear hi' hz' hs' hby'
           have K1 : Hid (∀ w', Below C W w' → (fun w' => w'.cell? ⟨b, o + i, none⟩ = some (.int .i64 d) ∧ w'.cell? ⟨pa, 0, none⟩ = some (.int .i64 A.ins) ∧ w'.cell? ⟨pa, 1, none⟩ = some (.slice SA.a1 A.lats.length SA.c1) ∧ w'.cell? ⟨pa, 2, none⟩ = some (.slice SA.a2 A.ands.length SA.c2) ∧ w'.cell? ⟨pa, 3, none⟩ = some (.slice (some ⟨b, o, none⟩) A.outs.length SA.c3) ∧ w'.cell? ⟨pb, 0, none⟩ = some (.int .i64 B.ins) ∧ w'.cell? ⟨pb, 1, none⟩ = some (.slice SB.a1 B.lats.length SB.c1) ∧ w'.cell? ⟨pb, 2, none⟩ = some (.slice SB.a2 B.ands.length SB.c2) ∧ w'.cell? ⟨pb, 3, none⟩ = some (.slice SB.a3 B.outs.length SB.c3)) w') := fun w' hb => by
            have ha := HXA.out.to hpa hb
            have hb' := HXB.out.to hpb hb
            exact ⟨(hb.cell (p := ⟨b, o + i, none⟩) hlb).trans y0, ha.c0, ha.c1, ha.c2, by rw [← ea]; exact ha.c3, hb'.c0, hb'.c1, hb'.c2, hb'.c3⟩
           have MVC : Hid (∀ (l : Int) (w' : World), 0 ≤ l ∧ l ≤ 4000000 → Calls Try.prog 50 #[.agg #[.int .i64 A.ins, .slice SA.a1 A.lats.length SA.c1, .slice SA.a2 A.ands.length SA.c2, .slice (some ⟨b, o, none⟩) A.outs.length SA.c3], .agg #[.int .i64 B.ins, .slice SB.a1 B.lats.length SB.c1, .slice SB.a2 B.ands.length SB.c2, .slice SB.a3 B.outs.length SB.c3], .int .i64 l] w' fun e w'' => e = .returned (.int .i64 (mvF A 0 B.lats.length l)) ∧ Below w'.heap.size w' w'') := fun l w' hl => by
            rw [← ea]; exact movedOne_doc w' SA SB A B HOA.out HOB.out l hl
           obtain ⟨uf, HUF⟩ : ∃ x, Hid (x = u 3) := ⟨_, rfl⟩
           obtain ⟨fn, HFN⟩ : ∃ x : Nat, Hid (x = (⟨A.ins, L2, N2, O0 ++ (A.outs.take (i)).map (mvF A 0 B.lats.length)⟩ : GrD).outs.length) := ⟨_, rfl⟩
           have gd : wr.drew.cell? ⟨gb, 3, none⟩ = some uf := by rw [HUF.out]; exact HTd.out.fld 3 (by decide)
           have HFAR : Hid (uf.ownBlock ≠ some gb) := by rw [HUF.out]; exact HTd.out.nb 3
           have hfn : fn ≤ 400000 := by
            rw [HFN.out]
            simp only [List.length_append, List.length_map, List.length_take]
            have := hO0
            omega
           have hm1 : fn + 1 ≤ maxLen := by simp only [maxLen]; omega
           have hm2 : (fn + 1) * 8 ≤ 140737488355328 := by omega
           rw [ea] at gS
           clear hd hc hlb ea y0
           go_upto_region 21 with fail
           clear gS
           refine wp_region_noPanic ?_
           refine wp_region_held_drew (S := (fun w' => w'.cell? ⟨b, o + i, none⟩ = some (.int .i64 d) ∧ w'.cell? ⟨pa, 0, none⟩ = some (.int .i64 A.ins) ∧ w'.cell? ⟨pa, 1, none⟩ = some (.slice SA.a1 A.lats.length SA.c1) ∧ w'.cell? ⟨pa, 2, none⟩ = some (.slice SA.a2 A.ands.length SA.c2) ∧ w'.cell? ⟨pa, 3, none⟩ = some (.slice (some ⟨b, o, none⟩) A.outs.length SA.c3) ∧ w'.cell? ⟨pb, 0, none⟩ = some (.int .i64 B.ins) ∧ w'.cell? ⟨pb, 1, none⟩ = some (.slice SB.a1 B.lats.length SB.c1) ∧ w'.cell? ⟨pb, 2, none⟩ = some (.slice SB.a2 B.ands.length SB.c2) ∧ w'.cell? ⟨pb, 3, none⟩ = some (.slice SB.a3 B.outs.length SB.c3))) (by kernel_rfl) (by first | exact K1.out _ hQd | first | assumption | exact K1.out _ (by assumption)) (fun hHeld => ?_)
           refine tk 0 ?_
           refine tk 2 ?_
           refine tk 3 ?_
           refine tk 4 ?_
           refine tk 5 ?_
           refine tk 6 ?_
           refine tk 7 ?_
           refine tk 8 ?_
           refine wpAnyH_ready (rs := [1, 9]) (by kernel_rfl) (by simp) ?_
           refine AllReadyH.cons (o := _) rfl (fun K hK => ?_) ?_
           ·(try simp only [gA, gB, gC])
            go_simp
            refine hK.out _ _ (by first | assumption | exact K1.out _ (by assumption)) (fun hHeld1 => ?_)
            clear hK K
            (try simp only [Act.put]); (try simp only [sA]); (try simp only [sB, sC])
            refine wpAnyH_ready (rs := [9]) (by kernel_rfl) (by simp) ?_
            refine AllReadyH.cons (o := _) rfl (fun K hK => ?_) AllReadyH.nil
            (try simp only [gA, gB, gC])
            go_simp
            go_at_call 50
            refine (MVC.out d _ hdl).mono ?_
            rintro e v1 ⟨rfl, hbx1⟩
            have hQ1 : Below C W v1 := hQd.trans (hbx1.mono HTd.out.size)
            have HT1 := hidden (HTd.out.rest hbx1)
            have gv1 : v1.cell? ⟨gb, 3, none⟩ = some uf := by rw [HUF.out]; exact HT1.out.fld 3 (by decide)
            have hgv1 : gb < v1.heap.size := HT1.out.lt
            clear hbx1
            go_wp2_with fail
            refine hK.out _ _ (by first | assumption | exact K1.out _ (by assumption)) (fun hHeld9 => ?_)
            clear hK K
            (try simp only [Act.put]); (try simp only [sA]); (try simp only [sB, sC])
            refine wpAnyH_ready (rs := [10]) (by kernel_rfl) (by simp) ?_
            refine AllReadyH.cons (o := _) rfl (fun K hK => ?_) AllReadyH.nil
            (try simp only [gA, gB, gC])
            go_simp
            refine hK.out _ _ (by first | assumption | exact K1.out _ (hQ1.alloc HT1.out.size _)) (fun hHeld10 => ?_)
            clear hK K
            (try simp only [Act.put]); (try simp only [sA]); (try simp only [sB, sC])
            refine wpAnyH_ready (rs := [11]) (by kernel_rfl) (by simp) ?_
            refine AllReadyH.cons (o := _) rfl (fun K hK => ?_) AllReadyH.nil
            have HOW : Hid (v1.ownsRow C 3 1 uf fn ((⟨A.ins, L2, N2, O0 ++ (A.outs.take (i)).map (mvF A 0 B.lats.length)⟩ : GrD).outs.map (Value.int .i64))) := by
             have := HT1.out.o
             rw [← HUF.out, ← HFN.out] at this
             exact this
            have hm3 : C ≤ (v1.alloc (.cells #[.int .i64 (mvF A 0 B.lats.length d)] 3)).heap.size := by have := HT1.out.size; simp; omega
            refine step_append_lies _ rfl (.tmp 141) (.tmp 150) 26 rfl C 3 il _ 1 8 Try.underlying26 HI.out HZ.out HSI.out HBY.out rfl (by decide) uf fn _ rfl (HOW.out.alloc _) ⟨v1.heap.size, 0, none⟩ 1 1 [.int .i64 (mvF A 0 B.lats.length d)] rfl rfl (World.news_of_block (heap_new _ _)) (by simp [Value.oneCell']) (by decide) hm1 hm2 hm3 _ rfl ?_
            intro g cap w6 hown hgrow hat hlt6
            have hg6 := grown_trn (World.grownBy_alloc v1 _ _) hgrow
            have hc6 : w6.cell? ⟨gb, 3, none⟩ = some uf := (hg6.cell_far ⟨gb, 3, none⟩ hgv1 (fun e => HFAR.out e.symm)).trans gv1
            have hf6 : w6.frozen? ⟨gb, 3, none⟩ = false := (hg6.frozen_far ⟨gb, 3, none⟩ hgv1 (fun e => HFAR.out e.symm)).trans (frozen_of_row _ _ _ _ _ HT1.out.box)
            have hQ6 : Below C W w6 := hQ1.trans ⟨hg6.os, hg6.tape, hg6.output, hg6.size, fun k hk => hg6.block k (Nat.lt_of_lt_of_le hk HT1.out.size) (fun e => by have := (HOW.out.lt k e.symm).1; omega)⟩
            refine hK.out _ _ (by first | assumption | exact K1.out _ hQ6) (fun hHeldp => ?_)
            clear hK K
            (try simp only [Act.put]); (try simp only [sA]); (try simp only [sB, sC])
            refine tk 12 ?_
            refine wpAnyH_ready (rs := [13]) (by kernel_rfl) (by simp) ?_
            refine AllReadyH.cons (o := _) rfl (fun K hK => ?_) AllReadyH.nil
            (try simp only [gA, gB, gC])
            go_simp
            refine hK.out _ _ (by first | assumption | exact K1.out _ (hQ6.trans (below_of (gset _ _ _ _) HT1.out.base (Nat.le_trans HT1.out.size hg6.size)))) (fun hHelds => ?_)
            clear hK K
            (try simp only [Act.put]); (try simp only [sA]); (try simp only [sB, sC])
            refine wpAnyH_done (by kernel_rfl) ?_ _
            refine NoPanic.normal ?_
            obtain ⟨t1, t2, -⟩ := HT1.out.pusho (mvF A 0 B.lats.length d) (g := g) (cap := cap) (by rw [← HUF.out]; exact hg6) (by rw [← HFN.out]; exact hown) (by
             rw [← HUF.out]
             rcases hat with h | h
             ·exact .inl h
             ·refine .inr ?_
              simp at h
              omega)
            rw [← HFN.out] at t1 t2
            have HQ9 : Hid (Below C W (w6.setCell ⟨gb, 3, none⟩ (.slice (some ⟨g, 0, none⟩) (fn + 1) cap))) := hQ1.trans t2
            have HT9 := hidden t1
            clear t1 t2
            generalize World.setCell w6 _ _ = w9 at HT9 HQ9 ⊢
            have HT9' : Hid (∃ u', TkP C w9 gb A.ins u' (⟨A.ins, L2, N2, O0 ++ (A.outs.take (i + 1)).map (mvF A 0 B.lats.length)⟩) []) := by
             show ∃ u', TkP _ _ _ _ _ _ _
             rw [take_next _ i _ HDI.out, List.map_append, ← List.append_assoc]
             exact ⟨_, HT9.out⟩
            clear HT9 hown hgrow hat hlt6 hg6 hc6 hf6 K1 MVC HOW hm3 hQd HTd hQ6 hQ1 HT1 gv1 hgv1 gd
            go_wp2
            go_roundw
            case measure => simp [intOf]; omega
            case rel => exact ⟨i + 1, by omega, by simp, HT9'.out, HQ9.out⟩
           refine AllReadyH.cons (o := _) rfl (fun K hK => ?_) AllReadyH.nil
           (try simp only [gA, gB, gC])
           go_simp
           go_at_call 50
           refine (MVC.out d _ hdl).mono ?_
           rintro e v1 ⟨rfl, hbx1⟩
           have hQ1 : Below C W v1 := hQd.trans (hbx1.mono HTd.out.size)
           have HT1 := hidden (HTd.out.rest hbx1)
           have gv1 : v1.cell? ⟨gb, 3, none⟩ = some uf := by rw [HUF.out]; exact HT1.out.fld 3 (by decide)
           have hgv1 : gb < v1.heap.size := HT1.out.lt
           clear hbx1
           go_wp2_with fail
           refine hK.out _ _ (by first | assumption | exact K1.out _ (by assumption)) (fun hHeld9 => ?_)
           clear hK K
           (try simp only [Act.put]); (try simp only [sA]); (try simp only [sB, sC])
           refine wpAnyH_ready (rs := [1, 10]) (by kernel_rfl) (by simp) ?_
           refine AllReadyH.cons (o := _) rfl (fun K hK => ?_) ?_
           ·(try simp only [gA, gB, gC])
            go_simp
            refine hK.out _ _ (by first | assumption | exact K1.out _ (by assumption)) (fun hHeld1 => ?_)
            clear hK K
            (try simp only [Act.put]); (try simp only [sA]); (try simp only [sB, sC])
            refine wpAnyH_ready (rs := [10]) (by kernel_rfl) (by simp) ?_
            refine AllReadyH.cons (o := _) rfl (fun K hK => ?_) AllReadyH.nil
            (try simp only [gA, gB, gC])
            go_simp
            refine hK.out _ _ (by first | assumption | exact K1.out _ (hQ1.alloc HT1.out.size _)) (fun hHeld10 => ?_)
            clear hK K
            (try simp only [Act.put]); (try simp only [sA]); (try simp only [sB, sC])
            refine wpAnyH_ready (rs := [11]) (by kernel_rfl) (by simp) ?_
            refine AllReadyH.cons (o := _) rfl (fun K hK => ?_) AllReadyH.nil
            have HOW : Hid (v1.ownsRow C 3 1 uf fn ((⟨A.ins, L2, N2, O0 ++ (A.outs.take (i)).map (mvF A 0 B.lats.length)⟩ : GrD).outs.map (Value.int .i64))) := by
             have := HT1.out.o
             rw [← HUF.out, ← HFN.out] at this
             exact this
            have hm3 : C ≤ (v1.alloc (.cells #[.int .i64 (mvF A 0 B.lats.length d)] 3)).heap.size := by have := HT1.out.size; simp; omega
            refine step_append_lies _ rfl (.tmp 141) (.tmp 150) 26 rfl C 3 il _ 1 8 Try.underlying26 HI.out HZ.out HSI.out HBY.out rfl (by decide) uf fn _ rfl (HOW.out.alloc _) ⟨v1.heap.size, 0, none⟩ 1 1 [.int .i64 (mvF A 0 B.lats.length d)] rfl rfl (World.news_of_block (heap_new _ _)) (by simp [Value.oneCell']) (by decide) hm1 hm2 hm3 _ rfl ?_
            intro g cap w6 hown hgrow hat hlt6
            have hg6 := grown_trn (World.grownBy_alloc v1 _ _) hgrow
            have hc6 : w6.cell? ⟨gb, 3, none⟩ = some uf := (hg6.cell_far ⟨gb, 3, none⟩ hgv1 (fun e => HFAR.out e.symm)).trans gv1
            have hf6 : w6.frozen? ⟨gb, 3, none⟩ = false := (hg6.frozen_far ⟨gb, 3, none⟩ hgv1 (fun e => HFAR.out e.symm)).trans (frozen_of_row _ _ _ _ _ HT1.out.box)
            have hQ6 : Below C W w6 := hQ1.trans ⟨hg6.os, hg6.tape, hg6.output, hg6.size, fun k hk => hg6.block k (Nat.lt_of_lt_of_le hk HT1.out.size) (fun e => by have := (HOW.out.lt k e.symm).1; omega)⟩
            refine hK.out _ _ (by first | assumption | exact K1.out _ hQ6) (fun hHeldp => ?_)
            clear hK K
            (try simp only [Act.put]); (try simp only [sA]); (try simp only [sB, sC])
            refine tk 12 ?_
            refine wpAnyH_ready (rs := [13]) (by kernel_rfl) (by simp) ?_
            refine AllReadyH.cons (o := _) rfl (fun K hK => ?_) AllReadyH.nil
            (try simp only [gA, gB, gC])
            go_simp
            refine hK.out _ _ (by first | assumption | exact K1.out _ (hQ6.trans (below_of (gset _ _ _ _) HT1.out.base (Nat.le_trans HT1.out.size hg6.size)))) (fun hHelds => ?_)
            clear hK K
            (try simp only [Act.put]); (try simp only [sA]); (try simp only [sB, sC])
            refine wpAnyH_done (by kernel_rfl) ?_ _
            refine NoPanic.normal ?_
            obtain ⟨t1, t2, -⟩ := HT1.out.pusho (mvF A 0 B.lats.length d) (g := g) (cap := cap) (by rw [← HUF.out]; exact hg6) (by rw [← HFN.out]; exact hown) (by
             rw [← HUF.out]
             rcases hat with h | h
             ·exact .inl h
             ·refine .inr ?_
              simp at h
              omega)
            rw [← HFN.out] at t1 t2
            have HQ9 : Hid (Below C W (w6.setCell ⟨gb, 3, none⟩ (.slice (some ⟨g, 0, none⟩) (fn + 1) cap))) := hQ1.trans t2
            have HT9 := hidden t1
            clear t1 t2
            generalize World.setCell w6 _ _ = w9 at HT9 HQ9 ⊢
            have HT9' : Hid (∃ u', TkP C w9 gb A.ins u' (⟨A.ins, L2, N2, O0 ++ (A.outs.take (i + 1)).map (mvF A 0 B.lats.length)⟩) []) := by
             show ∃ u', TkP _ _ _ _ _ _ _
             rw [take_next _ i _ HDI.out, List.map_append, ← List.append_assoc]
             exact ⟨_, HT9.out⟩
            clear HT9 hown hgrow hat hlt6 hg6 hc6 hf6 K1 MVC HOW hm3 hQd HTd hQ6 hQ1 HT1 gv1 hgv1 gd
            go_wp2
            go_roundw
            case measure => simp [intOf]; omega
            case rel => exact ⟨i + 1, by omega, by simp, HT9'.out, HQ9.out⟩
           refine AllReadyH.cons (o := _) rfl (fun K hK => ?_) AllReadyH.nil
           (try simp only [gA, gB, gC])
           go_simp
           refine hK.out _ _ (by first | assumption | exact K1.out _ (hQ1.alloc HT1.out.size _)) (fun hHeld10 => ?_)
           clear hK K
           (try simp only [Act.put]); (try simp only [sA]); (try simp only [sB, sC])
           refine wpAnyH_ready (rs := [1]) (by kernel_rfl) (by simp) ?_
           refine AllReadyH.cons (o := _) rfl (fun K hK => ?_) AllReadyH.nil
           (try simp only [gA, gB, gC])
           go_simp
           refine hK.out _ _ (by first | assumption | exact K1.out _ (by assumption)) (fun hHeld1 => ?_)
           clear hK K
           (try simp only [Act.put]); (try simp only [sA]); (try simp only [sB, sC])
           refine wpAnyH_ready (rs := [11]) (by kernel_rfl) (by simp) ?_
           refine AllReadyH.cons (o := _) rfl (fun K hK => ?_) AllReadyH.nil
           have HOW : Hid (v1.ownsRow C 3 1 uf fn ((⟨A.ins, L2, N2, O0 ++ (A.outs.take (i)).map (mvF A 0 B.lats.length)⟩ : GrD).outs.map (Value.int .i64))) := by
            have := HT1.out.o
            rw [← HUF.out, ← HFN.out] at this
            exact this
           have hm3 : C ≤ (v1.alloc (.cells #[.int .i64 (mvF A 0 B.lats.length d)] 3)).heap.size := by have := HT1.out.size; simp; omega
           refine step_append_lies _ rfl (.tmp 141) (.tmp 150) 26 rfl C 3 il _ 1 8 Try.underlying26 HI.out HZ.out HSI.out HBY.out rfl (by decide) uf fn _ rfl (HOW.out.alloc _) ⟨v1.heap.size, 0, none⟩ 1 1 [.int .i64 (mvF A 0 B.lats.length d)] rfl rfl (World.news_of_block (heap_new _ _)) (by simp [Value.oneCell']) (by decide) hm1 hm2 hm3 _ rfl ?_
           intro g cap w6 hown hgrow hat hlt6
           have hg6 := grown_trn (World.grownBy_alloc v1 _ _) hgrow
           have hc6 : w6.cell? ⟨gb, 3, none⟩ = some uf := (hg6.cell_far ⟨gb, 3, none⟩ hgv1 (fun e => HFAR.out e.symm)).trans gv1
           have hf6 : w6.frozen? ⟨gb, 3, none⟩ = false := (hg6.frozen_far ⟨gb, 3, none⟩ hgv1 (fun e => HFAR.out e.symm)).trans (frozen_of_row _ _ _ _ _ HT1.out.box)
           have hQ6 : Below C W w6 := hQ1.trans ⟨hg6.os, hg6.tape, hg6.output, hg6.size, fun k hk => hg6.block k (Nat.lt_of_lt_of_le hk HT1.out.size) (fun e => by have := (HOW.out.lt k e.symm).1; omega)⟩
           refine hK.out _ _ (by first | assumption | exact K1.out _ hQ6) (fun hHeldp => ?_)
           clear hK K
           (try simp only [Act.put]); (try simp only [sA]); (try simp only [sB, sC])
           refine tk 12 ?_
           refine wpAnyH_ready (rs := [13]) (by kernel_rfl) (by simp) ?_
           refine AllReadyH.cons (o := _) rfl (fun K hK => ?_) AllReadyH.nil
           (try simp only [gA, gB, gC])
           go_simp
           refine hK.out _ _ (by first | assumption | exact K1.out _ (hQ6.trans (below_of (gset _ _ _ _) HT1.out.base (Nat.le_trans HT1.out.size hg6.size)))) (fun hHelds => ?_)
           clear hK K
           (try simp only [Act.put]); (try simp only [sA]); (try simp only [sB, sC])
           refine wpAnyH_done (by kernel_rfl) ?_ _
           refine NoPanic.normal ?_
           obtain ⟨t1, t2, -⟩ := HT1.out.pusho (mvF A 0 B.lats.length d) (g := g) (cap := cap) (by rw [← HUF.out]; exact hg6) (by rw [← HFN.out]; exact hown) (by
            rw [← HUF.out]
            rcases hat with h | h
            ·exact .inl h
            ·refine .inr ?_
             simp at h
             omega)
           rw [← HFN.out] at t1 t2
           have HQ9 : Hid (Below C W (w6.setCell ⟨gb, 3, none⟩ (.slice (some ⟨g, 0, none⟩) (fn + 1) cap))) := hQ1.trans t2
           have HT9 := hidden t1
           clear t1 t2
           generalize World.setCell w6 _ _ = w9 at HT9 HQ9 ⊢
           have HT9' : Hid (∃ u', TkP C w9 gb A.ins u' (⟨A.ins, L2, N2, O0 ++ (A.outs.take (i + 1)).map (mvF A 0 B.lats.length)⟩) []) := by
            show ∃ u', TkP _ _ _ _ _ _ _
            rw [take_next _ i _ HDI.out, List.map_append, ← List.append_assoc]
            exact ⟨_, HT9.out⟩
           clear HT9 hown hgrow hat hlt6 hg6 hc6 hf6 K1 MVC HOW hm3 hQd HTd hQ6 hQ1 HT1 gv1 hgv1 gd
           go_wp2
           go_roundw
           case measure => simp [intOf]; omega
           case rel => exact ⟨i + 1, by omega, by simp, HT9'.out, HQ9.out⟩
          ·have hge : ¬ ((i : Int) < (A.outs.length : Int)) := by omega
           obtain ⟨O1, HO1⟩ : ∃ z, Hid (z = O0 ++ A.outs.map (mvF A 0 B.lats.length)) := ⟨_, rfl⟩
           have hO1 : O1.length ≤ 60000 := by
            rw [HO1.out]
            simp only [List.length_append, List.length_map]
            have := hO0
            have := HOA.out.l1; have := HOA.out.a1; have := HOA.out.o1
            omega
           have HTv5 : Hid (∃ u', TkP C wr gb A.ins u' (⟨A.ins, L2, N2, O1⟩) []) := by
            show ∃ u', TkP _ _ _ _ _ _ _
            rw [HO1.out]
            have := HTk.out
            rw [List.take_of_length_le (by omega)] at this
            exact this
           have HQv5 := HQ0
           clear HTk HQ0
           obtain ⟨V5, hV5⟩ : ∃ z, z = wr := ⟨_, rfl⟩
           rw [← hV5] at HTv5 HQv5 gS ⊢
           clear hV5
           have gS : V5.cell? ⟨pb, 3, none⟩ = some (.slice SB.a3 B.outs.length SB.c3) := (HXB.out.to hpb HQv5.out).c3
           go_wp2_with fail
           clear gS
           go_loopw [11] (fun i' w' => ∃ (i : Nat), i ≤ B.outs.length ∧ i' = .int .i64 i ∧ Hid (∃ u', TkP C w' gb A.ins u' (⟨A.ins, L2, N2, O1 ++ (B.outs.take (i)).map (mvF B A.lats.length (A.lats.length + A.ands.length))⟩) []) ∧ Hid (Below C W w')) (fun i' _ => B.outs.length - (intOf i').toNat)
           case atStart => exact ⟨0, Nat.zero_le _, rfl, by show ∃ u', TkP _ _ _ _ _ _ _; simpa using HTv5.out, HQv5.out⟩
           case round =>
            clear HTv5 HQv5
            obtain ⟨i, hi, rfl, HTk, HQ0⟩ := hrel
            have gS : wr.cell? ⟨pb, 3, none⟩ = some (.slice SB.a3 B.outs.length SB.c3) := (HXB.out.to hpb HQ0.out).c3
            by_cases hlt : i < B.outs.length
            ·obtain ⟨u, ht⟩ := HTk.out
             have HTd : Hid (TkP C wr.drew gb A.ins u (⟨A.ins, L2, N2, O1 ++ (B.outs.take (i)).map (mvF B A.lats.length (A.lats.length + A.ands.length))⟩) []) := ht.rest (Below.drew (Below.refl _ _))
             have hQd : Below C W wr.drew := Below.drew HQ0.out
             clear ht HTk
             have hltI : (i : Int) < (B.outs.length : Int) := by omega
             obtain ⟨d, hd⟩ := getElem_lt hlt
             have HDI := hidden hd
             have hpl : B.outs.length ≤ 60000 := by have := HOB.out.l1; have := HOB.out.a1; have := HOB.out.o1; omega
             obtain ⟨b, o, ea, hlb, hc⟩ := (HGB.out W (Below.refl _ _)).o.el hd
             have hdl : 0 ≤ d ∧ d ≤ 4000000 := by have := HOB.out.outL d (List.mem_of_getElem? hd); omega
             have y0 := hc 0 _ rfl
             simp only [Nat.mul_one, Nat.add_zero] at y0
             have e3 : IntKind.i64.wrap ((i : Int) + 1) = (i : Int) + 1 := wrapI _ (by omega) (by omega)
             obtain ⟨il, hi', hz', hs', hby'⟩ := info_int
             have HI := hidden hi'
             have HZ := hidden hz'
             have HSI := hidden hs'
             have HBY := hidden hby'
             clear hi' hz' hs' hby'
             have K1 : Hid (∀ w', Below C W w' → (fun w' => w'.cell? ⟨b, o + i, none⟩ = some (.int .i64 d) ∧ w'.cell? ⟨pa, 0, none⟩ = some (.int .i64 A.ins) ∧ w'.cell? ⟨pa, 1, none⟩ = some (.slice SA.a1 A.lats.length SA.c1) ∧ w'.cell? ⟨pa, 2, none⟩ = some (.slice SA.a2 A.ands.length SA.c2) ∧ w'.cell? ⟨pa, 3, none⟩ = some (.slice SA.a3 A.outs.length SA.c3) ∧ w'.cell? ⟨pb, 0, none⟩ = some (.int .i64 B.ins) ∧ w'.cell? ⟨pb, 1, none⟩ = some (.slice SB.a1 B.lats.length SB.c1) ∧ w'.cell? ⟨pb, 2, none⟩ = some (.slice SB.a2 B.ands.length SB.c2) ∧ w'.cell? ⟨pb, 3, none⟩ = some (.slice (some ⟨b, o, none⟩) B.outs.length SB.c3)) w') := fun w' hb => by
              have ha := HXA.out.to hpa hb
              have hb' := HXB.out.to hpb hb
              exact ⟨(hb.cell (p := ⟨b, o + i, none⟩) hlb).trans y0, ha.c0, ha.c1, ha.c2, ha.c3, hb'.c0, hb'.c1, hb'.c2, by rw [← ea]; exact hb'.c3⟩
             have MVC : Hid (∀ (l : Int) (w' : World), 0 ≤ l ∧ l ≤ 4000000 → Calls Try.prog 51 #[.agg #[.int .i64 A.ins, .slice SA.a1 A.lats.length SA.c1, .slice SA.a2 A.ands.length SA.c2, .slice SA.a3 A.outs.length SA.c3], .agg #[.int .i64 B.ins, .slice SB.a1 B.lats.length SB.c1, .slice SB.a2 B.ands.length SB.c2, .slice (some ⟨b, o, none⟩) B.outs.length SB.c3], .int .i64 l] w' fun e w'' => e = .returned (.int .i64 (mvF B A.lats.length (A.lats.length + A.ands.length) l)) ∧ Below w'.heap.size w' w'') := fun l w' hl => by
              rw [← ea]; exact moved_doc w' SA SB A B HOA.out HOB.out l hl
             obtain ⟨uf, HUF⟩ : ∃ x, Hid (x = u 3) := ⟨_, rfl⟩
             obtain ⟨fn, HFN⟩ : ∃ x : Nat, Hid (x = (⟨A.ins, L2, N2, O1 ++ (B.outs.take (i)).map (mvF B A.lats.length (A.lats.length + A.ands.length))⟩ : GrD).outs.length) := ⟨_, rfl⟩
             have gd : wr.drew.cell? ⟨gb, 3, none⟩ = some uf := by rw [HUF.out]; exact HTd.out.fld 3 (by decide)
             have HFAR : Hid (uf.ownBlock ≠ some gb) := by rw [HUF.out]; exact HTd.out.nb 3
             have hfn : fn ≤ 400000 := by
              rw [HFN.out]
              simp only [List.length_append, List.length_map, List.length_take]
              have := hO1
              omega
             have hm1 : fn + 1 ≤ maxLen := by simp only [maxLen]; omega
             have hm2 : (fn + 1) * 8 ≤ 140737488355328 := by omega
             rw [ea] at gS
             clear hd hc hlb ea y0
             go_upto_region 25 with fail
             clear gS
             refine wp_region_noPanic ?_
             refine wp_region_held_drew (S := (fun w' => w'.cell? ⟨b, o + i, none⟩ = some (.int .i64 d) ∧ w'.cell? ⟨pa, 0, none⟩ = some (.int .i64 A.ins) ∧ w'.cell? ⟨pa, 1, none⟩ = some (.slice SA.a1 A.lats.length SA.c1) ∧ w'.cell? ⟨pa, 2, none⟩ = some (.slice SA.a2 A.ands.length SA.c2) ∧ w'.cell? ⟨pa, 3, none⟩ = some (.slice SA.a3 A.outs.length SA.c3) ∧ w'.cell? ⟨pb, 0, none⟩ = some (.int .i64 B.ins) ∧ w'.cell? ⟨pb, 1, none⟩ = some (.slice SB.a1 B.lats.length SB.c1) ∧ w'.cell? ⟨pb, 2, none⟩ = some (.slice SB.a2 B.ands.length SB.c2) ∧ w'.cell? ⟨pb, 3, none⟩ = some (.slice (some ⟨b, o, none⟩) B.outs.length SB.c3))) (by kernel_rfl) (by first | exact K1.out _ hQd | first | assumption | exact K1.out _ (by assumption)) (fun hHeld => ?_)
             refine tk 0 ?_
             refine tk 2 ?_
             refine tk 3 ?_
             refine tk 4 ?_
             refine tk 5 ?_
             refine tk 6 ?_
             refine tk 7 ?_
             refine tk 8 ?_
             refine wpAnyH_ready (rs := [1, 9]) (by kernel_rfl) (by simp) ?_
             refine AllReadyH.cons (o := _) rfl (fun K hK => ?_) ?_
             ·(try simp only [gA, gB, gC])
              go_simp
              refine hK.out _ _ (by first | assumption | exact K1.out _ (by assumption)) (fun hHeld1 => ?_)
              clear hK K
              (try simp only [Act.put]); (try simp only [sA]); (try simp only [sB, sC])
              refine wpAnyH_ready (rs := [9]) (by kernel_rfl) (by simp) ?_
              refine AllReadyH.cons (o := _) rfl (fun K hK => ?_) AllReadyH.nil
              (try simp only [gA, gB, gC])
              go_simp
              go_at_call 51
              refine (MVC.out d _ hdl).mono ?_
              rintro e v1 ⟨rfl, hbx1⟩
              have hQ1 : Below C W v1 := hQd.trans (hbx1.mono HTd.out.size)
              have HT1 := hidden (HTd.out.rest hbx1)
              have gv1 : v1.cell? ⟨gb, 3, none⟩ = some uf := by rw [HUF.out]; exact HT1.out.fld 3 (by decide)
              have hgv1 : gb < v1.heap.size := HT1.out.lt
              clear hbx1
              go_wp2_with fail
              refine hK.out _ _ (by first | assumption | exact K1.out _ (by assumption)) (fun hHeld9 => ?_)
              clear hK K
              (try simp only [Act.put]); (try simp only [sA]); (try simp only [sB, sC])
              refine wpAnyH_ready (rs := [10]) (by kernel_rfl) (by simp) ?_
              refine AllReadyH.cons (o := _) rfl (fun K hK => ?_) AllReadyH.nil
              (try simp only [gA, gB, gC])
              go_simp
              refine hK.out _ _ (by first | assumption | exact K1.out _ (hQ1.alloc HT1.out.size _)) (fun hHeld10 => ?_)
              clear hK K
              (try simp only [Act.put]); (try simp only [sA]); (try simp only [sB, sC])
              refine wpAnyH_ready (rs := [11]) (by kernel_rfl) (by simp) ?_
              refine AllReadyH.cons (o := _) rfl (fun K hK => ?_) AllReadyH.nil
              have HOW : Hid (v1.ownsRow C 3 1 uf fn ((⟨A.ins, L2, N2, O1 ++ (B.outs.take (i)).map (mvF B A.lats.length (A.lats.length + A.ands.length))⟩ : GrD).outs.map (Value.int .i64))) := by
               have := HT1.out.o
               rw [← HUF.out, ← HFN.out] at this
               exact this
              have hm3 : C ≤ (v1.alloc (.cells #[.int .i64 (mvF B A.lats.length (A.lats.length + A.ands.length) d)] 3)).heap.size := by have := HT1.out.size; simp; omega
              refine step_append_lies _ rfl (.tmp 161) (.tmp 170) 26 rfl C 3 il _ 1 8 Try.underlying26 HI.out HZ.out HSI.out HBY.out rfl (by decide) uf fn _ rfl (HOW.out.alloc _) ⟨v1.heap.size, 0, none⟩ 1 1 [.int .i64 (mvF B A.lats.length (A.lats.length + A.ands.length) d)] rfl rfl (World.news_of_block (heap_new _ _)) (by simp [Value.oneCell']) (by decide) hm1 hm2 hm3 _ rfl ?_
              intro g cap w6 hown hgrow hat hlt6
              have hg6 := grown_trn (World.grownBy_alloc v1 _ _) hgrow
              have hc6 : w6.cell? ⟨gb, 3, none⟩ = some uf := (hg6.cell_far ⟨gb, 3, none⟩ hgv1 (fun e => HFAR.out e.symm)).trans gv1
              have hf6 : w6.frozen? ⟨gb, 3, none⟩ = false := (hg6.frozen_far ⟨gb, 3, none⟩ hgv1 (fun e => HFAR.out e.symm)).trans (frozen_of_row _ _ _ _ _ HT1.out.box)
              have hQ6 : Below C W w6 := hQ1.trans ⟨hg6.os, hg6.tape, hg6.output, hg6.size, fun k hk => hg6.block k (Nat.lt_of_lt_of_le hk HT1.out.size) (fun e => by have := (HOW.out.lt k e.symm).1; omega)⟩
              refine hK.out _ _ (by first | assumption | exact K1.out _ hQ6) (fun hHeldp => ?_)
              clear hK K
              (try simp only [Act.put]); (try simp only [sA]); (try simp only [sB, sC])
              refine tk 12 ?_
              refine wpAnyH_ready (rs := [13]) (by kernel_rfl) (by simp) ?_
              refine AllReadyH.cons (o := _) rfl (fun K hK => ?_) AllReadyH.nil
              (try simp only [gA, gB, gC])
              go_simp
              refine hK.out _ _ (by first | assumption | exact K1.out _ (hQ6.trans (below_of (gset _ _ _ _) HT1.out.base (Nat.le_trans HT1.out.size hg6.size)))) (fun hHelds => ?_)
              clear hK K
              (try simp only [Act.put]); (try simp only [sA]); (try simp only [sB, sC])
              refine wpAnyH_done (by kernel_rfl) ?_ _
              refine NoPanic.normal ?_
              obtain ⟨t1, t2, -⟩ := HT1.out.pusho (mvF B A.lats.length (A.lats.length + A.ands.length) d) (g := g) (cap := cap) (by rw [← HUF.out]; exact hg6) (by rw [← HFN.out]; exact hown) (by
               rw [← HUF.out]
               rcases hat with h | h
               ·exact .inl h
               ·refine .inr ?_
                simp at h
                omega)
              rw [← HFN.out] at t1 t2
              have HQ9 : Hid (Below C W (w6.setCell ⟨gb, 3, none⟩ (.slice (some ⟨g, 0, none⟩) (fn + 1) cap))) := hQ1.trans t2
              have HT9 := hidden t1
              clear t1 t2
              generalize World.setCell w6 _ _ = w9 at HT9 HQ9 ⊢
              have HT9' : Hid (∃ u', TkP C w9 gb A.ins u' (⟨A.ins, L2, N2, O1 ++ (B.outs.take (i + 1)).map (mvF B A.lats.length (A.lats.length + A.ands.length))⟩) []) := by
               show ∃ u', TkP _ _ _ _ _ _ _
               rw [take_next _ i _ HDI.out, List.map_append, ← List.append_assoc]
               exact ⟨_, HT9.out⟩
              clear HT9 hown hgrow hat hlt6 hg6 hc6 hf6 K1 MVC HOW hm3 hQd HTd hQ6 hQ1 HT1 gv1 hgv1 gd
              go_wp2
              go_roundw
              case measure => simp [intOf]; omega
              case rel => exact ⟨i + 1, by omega, by simp, HT9'.out, HQ9.out⟩
             refine AllReadyH.cons (o := _) rfl (fun K hK => ?_) AllReadyH.nil
             (try simp only [gA, gB, gC])
             go_simp
             go_at_call 51
             refine (MVC.out d _ hdl).mono ?_
             rintro e v1 ⟨rfl, hbx1⟩
             have hQ1 : Below C W v1 := hQd.trans (hbx1.mono HTd.out.size)
             have HT1 := hidden (HTd.out.rest hbx1)
             have gv1 : v1.cell? ⟨gb, 3, none⟩ = some uf := by rw [HUF.out]; exact HT1.out.fld 3 (by decide)
             have hgv1 : gb < v1.heap.size := HT1.out.lt
             clear hbx1
             go_wp2_with fail
             refine hK.out _ _ (by first | assumption | exact K1.out _ (by assumption)) (fun hHeld9 => ?_)
             clear hK K
             (try simp only [Act.put]); (try simp only [sA]); (try simp only [sB, sC])
             refine wpAnyH_ready (rs := [1, 10]) (by kernel_rfl) (by simp) ?_
             refine AllReadyH.cons (o := _) rfl (fun K hK => ?_) ?_
             ·(try simp only [gA, gB, gC])
              go_simp
              refine hK.out _ _ (by first | assumption | exact K1.out _ (by assumption)) (fun hHeld1 => ?_)
              clear hK K
              (try simp only [Act.put]); (try simp only [sA]); (try simp only [sB, sC])
              refine wpAnyH_ready (rs := [10]) (by kernel_rfl) (by simp) ?_
              refine AllReadyH.cons (o := _) rfl (fun K hK => ?_) AllReadyH.nil
              (try simp only [gA, gB, gC])
              go_simp
              refine hK.out _ _ (by first | assumption | exact K1.out _ (hQ1.alloc HT1.out.size _)) (fun hHeld10 => ?_)
              clear hK K
              (try simp only [Act.put]); (try simp only [sA]); (try simp only [sB, sC])
              refine wpAnyH_ready (rs := [11]) (by kernel_rfl) (by simp) ?_
              refine AllReadyH.cons (o := _) rfl (fun K hK => ?_) AllReadyH.nil
              have HOW : Hid (v1.ownsRow C 3 1 uf fn ((⟨A.ins, L2, N2, O1 ++ (B.outs.take (i)).map (mvF B A.lats.length (A.lats.length + A.ands.length))⟩ : GrD).outs.map (Value.int .i64))) := by
               have := HT1.out.o
               rw [← HUF.out, ← HFN.out] at this
               exact this
              have hm3 : C ≤ (v1.alloc (.cells #[.int .i64 (mvF B A.lats.length (A.lats.length + A.ands.length) d)] 3)).heap.size := by have := HT1.out.size; simp; omega
              refine step_append_lies _ rfl (.tmp 161) (.tmp 170) 26 rfl C 3 il _ 1 8 Try.underlying26 HI.out HZ.out HSI.out HBY.out rfl (by decide) uf fn _ rfl (HOW.out.alloc _) ⟨v1.heap.size, 0, none⟩ 1 1 [.int .i64 (mvF B A.lats.length (A.lats.length + A.ands.length) d)] rfl rfl (World.news_of_block (heap_new _ _)) (by simp [Value.oneCell']) (by decide) hm1 hm2 hm3 _ rfl ?_
              intro g cap w6 hown hgrow hat hlt6
              have hg6 := grown_trn (World.grownBy_alloc v1 _ _) hgrow
              have hc6 : w6.cell? ⟨gb, 3, none⟩ = some uf := (hg6.cell_far ⟨gb, 3, none⟩ hgv1 (fun e => HFAR.out e.symm)).trans gv1
              have hf6 : w6.frozen? ⟨gb, 3, none⟩ = false := (hg6.frozen_far ⟨gb, 3, none⟩ hgv1 (fun e => HFAR.out e.symm)).trans (frozen_of_row _ _ _ _ _ HT1.out.box)
              have hQ6 : Below C W w6 := hQ1.trans ⟨hg6.os, hg6.tape, hg6.output, hg6.size, fun k hk => hg6.block k (Nat.lt_of_lt_of_le hk HT1.out.size) (fun e => by have := (HOW.out.lt k e.symm).1; omega)⟩
              refine hK.out _ _ (by first | assumption | exact K1.out _ hQ6) (fun hHeldp => ?_)
              clear hK K
              (try simp only [Act.put]); (try simp only [sA]); (try simp only [sB, sC])
              refine tk 12 ?_
              refine wpAnyH_ready (rs := [13]) (by kernel_rfl) (by simp) ?_
              refine AllReadyH.cons (o := _) rfl (fun K hK => ?_) AllReadyH.nil
              (try simp only [gA, gB, gC])
              go_simp
              refine hK.out _ _ (by first | assumption | exact K1.out _ (hQ6.trans (below_of (gset _ _ _ _) HT1.out.base (Nat.le_trans HT1.out.size hg6.size)))) (fun hHelds => ?_)
              clear hK K
              (try simp only [Act.put]); (try simp only [sA]); (try simp only [sB, sC])
              refine wpAnyH_done (by kernel_rfl) ?_ _
              refine NoPanic.normal ?_
              obtain ⟨t1, t2, -⟩ := HT1.out.pusho (mvF B A.lats.length (A.lats.length + A.ands.length) d) (g := g) (cap := cap) (by rw [← HUF.out]; exact hg6) (by rw [← HFN.out]; exact hown) (by
               rw [← HUF.out]
               rcases hat with h | h
               ·exact .inl h
               ·refine .inr ?_
                simp at h
                omega)
              rw [← HFN.out] at t1 t2
              have HQ9 : Hid (Below C W (w6.setCell ⟨gb, 3, none⟩ (.slice (some ⟨g, 0, none⟩) (fn + 1) cap))) := hQ1.trans t2
              have HT9 := hidden t1
              clear t1 t2
              generalize World.setCell w6 _ _ = w9 at HT9 HQ9 ⊢
              have HT9' : Hid (∃ u', TkP C w9 gb A.ins u' (⟨A.ins, L2, N2, O1 ++ (B.outs.take (i + 1)).map (mvF B A.lats.length (A.lats.length + A.ands.length))⟩) []) := by
               show ∃ u', TkP _ _ _ _ _ _ _
               rw [take_next _ i _ HDI.out, List.map_append, ← List.append_assoc]
               exact ⟨_, HT9.out⟩
              clear HT9 hown hgrow hat hlt6 hg6 hc6 hf6 K1 MVC HOW hm3 hQd HTd hQ6 hQ1 HT1 gv1 hgv1 gd
              go_wp2
              go_roundw
              case measure => simp [intOf]; omega
              case rel => exact ⟨i + 1, by omega, by simp, HT9'.out, HQ9.out⟩
             refine AllReadyH.cons (o := _) rfl (fun K hK => ?_) AllReadyH.nil
             (try simp only [gA, gB, gC])
             go_simp
             refine hK.out _ _ (by first | assumption | exact K1.out _ (hQ1.alloc HT1.out.size _)) (fun hHeld10 => ?_)
             clear hK K
             (try simp only [Act.put]); (try simp only [sA]); (try simp only [sB, sC])
             refine wpAnyH_ready (rs := [1]) (by kernel_rfl) (by simp) ?_
             refine AllReadyH.cons (o := _) rfl (fun K hK => ?_) AllReadyH.nil
             (try simp only [gA, gB, gC])
             go_simp
             refine hK.out _ _ (by first | assumption | exact K1.out _ (by assumption)) (fun hHeld1 => ?_)
             clear hK K
             (try simp only [Act.put]); (try simp only [sA]); (try simp only [sB, sC])
             refine wpAnyH_ready (rs := [11]) (by kernel_rfl) (by simp) ?_
             refine AllReadyH.cons (o := _) rfl (fun K hK => ?_) AllReadyH.nil
             have HOW : Hid (v1.ownsRow C 3 1 uf fn ((⟨A.ins, L2, N2, O1 ++ (B.outs.take (i)).map (mvF B A.lats.length (A.lats.length + A.ands.length))⟩ : GrD).outs.map (Value.int .i64))) := by
              have := HT1.out.o
              rw [← HUF.out, ← HFN.out] at this
              exact this
             have hm3 : C ≤ (v1.alloc (.cells #[.int .i64 (mvF B A.lats.length (A.lats.length + A.ands.length) d)] 3)).heap.size := by have := HT1.out.size; simp; omega
             refine step_append_lies _ rfl (.tmp 161) (.tmp 170) 26 rfl C 3 il _ 1 8 Try.underlying26 HI.out HZ.out HSI.out HBY.out rfl (by decide) uf fn _ rfl (HOW.out.alloc _) ⟨v1.heap.size, 0, none⟩ 1 1 [.int .i64 (mvF B A.lats.length (A.lats.length + A.ands.length) d)] rfl rfl (World.news_of_block (heap_new _ _)) (by simp [Value.oneCell']) (by decide) hm1 hm2 hm3 _ rfl ?_
             intro g cap w6 hown hgrow hat hlt6
             have hg6 := grown_trn (World.grownBy_alloc v1 _ _) hgrow
             have hc6 : w6.cell? ⟨gb, 3, none⟩ = some uf := (hg6.cell_far ⟨gb, 3, none⟩ hgv1 (fun e => HFAR.out e.symm)).trans gv1
             have hf6 : w6.frozen? ⟨gb, 3, none⟩ = false := (hg6.frozen_far ⟨gb, 3, none⟩ hgv1 (fun e => HFAR.out e.symm)).trans (frozen_of_row _ _ _ _ _ HT1.out.box)
             have hQ6 : Below C W w6 := hQ1.trans ⟨hg6.os, hg6.tape, hg6.output, hg6.size, fun k hk => hg6.block k (Nat.lt_of_lt_of_le hk HT1.out.size) (fun e => by have := (HOW.out.lt k e.symm).1; omega)⟩
             refine hK.out _ _ (by first | assumption | exact K1.out _ hQ6) (fun hHeldp => ?_)
             clear hK K
             (try simp only [Act.put]); (try simp only [sA]); (try simp only [sB, sC])
             refine tk 12 ?_
             refine wpAnyH_ready (rs := [13]) (by kernel_rfl) (by simp) ?_
             refine AllReadyH.cons (o := _) rfl (fun K hK => ?_) AllReadyH.nil
             (try simp only [gA, gB, gC])
             go_simp
             refine hK.out _ _ (by first | assumption | exact K1.out _ (hQ6.trans (below_of (gset _ _ _ _) HT1.out.base (Nat.le_trans HT1.out.size hg6.size)))) (fun hHelds => ?_)
             clear hK K
             (try simp only [Act.put]); (try simp only [sA]); (try simp only [sB, sC])
             refine wpAnyH_done (by kernel_rfl) ?_ _
             refine NoPanic.normal ?_
             obtain ⟨t1, t2, -⟩ := HT1.out.pusho (mvF B A.lats.length (A.lats.length + A.ands.length) d) (g := g) (cap := cap) (by rw [← HUF.out]; exact hg6) (by rw [← HFN.out]; exact hown) (by
              rw [← HUF.out]
              rcases hat with h | h
              ·exact .inl h
              ·refine .inr ?_
               simp at h
               omega)
             rw [← HFN.out] at t1 t2
             have HQ9 : Hid (Below C W (w6.setCell ⟨gb, 3, none⟩ (.slice (some ⟨g, 0, none⟩) (fn + 1) cap))) := hQ1.trans t2
             have HT9 := hidden t1
             clear t1 t2
             generalize World.setCell w6 _ _ = w9 at HT9 HQ9 ⊢
             have HT9' : Hid (∃ u', TkP C w9 gb A.ins u' (⟨A.ins, L2, N2, O1 ++ (B.outs.take (i + 1)).map (mvF B A.lats.length (A.lats.length + A.ands.length))⟩) []) := by
              show ∃ u', TkP _ _ _ _ _ _ _
              rw [take_next _ i _ HDI.out, List.map_append, ← List.append_assoc]
              exact ⟨_, HT9.out⟩
             clear HT9 hown hgrow hat hlt6 hg6 hc6 hf6 K1 MVC HOW hm3 hQd HTd hQ6 hQ1 HT1 gv1 hgv1 gd
             go_wp2
             go_roundw
             case measure => simp [intOf]; omega
             case rel => exact ⟨i + 1, by omega, by simp, HT9'.out, HQ9.out⟩
            ·have hge : ¬ ((i : Int) < (B.outs.length : Int)) := by omega
             obtain ⟨O2, HO2⟩ : ∃ z, Hid (z = O1 ++ B.outs.map (mvF B A.lats.length (A.lats.length + A.ands.length))) := ⟨_, rfl⟩
             have hO2 : O2.length ≤ 120000 := by
              rw [HO2.out]
              simp only [List.length_append, List.length_map]
              have := hO1
              have := HOB.out.l1; have := HOB.out.a1; have := HOB.out.o1
              omega
             have HTv6 : Hid (∃ u', TkP C wr gb A.ins u' (⟨A.ins, L2, N2, O2⟩) []) := by
              show ∃ u', TkP _ _ _ _ _ _ _
              rw [HO2.out]
              have := HTk.out
              rw [List.take_of_length_le (by omega)] at this
              exact this
             have HQv6 := HQ0
             clear HTk HQ0
             obtain ⟨V6, hV6⟩ : ∃ z, z = wr := ⟨_, rfl⟩
             rw [← hV6] at HTv6 HQv6 gS ⊢
             clear hV6
             obtain ⟨u4, ht4⟩ := HTv6.out
             have HT4 := hidden ht4
             have HR4 : Hid (V6.heap[rb]? = some (.cells #[.int .i64 0, .slice none 0 0, .slice none 0 0, .slice none 0 0] 30 (0, 0))) := (HQv6.out.block rb (by rw [HC.out]; exact hrl)).trans HRB.out
             clear ht4
             obtain ⟨GJ, HGJ⟩ : ∃ G : GrD, Hid (G = ⟨A.ins, L2, N2, O2⟩) := ⟨_, rfl⟩
             rw [← HGJ.out] at HT4
             have HJE : Hid (GJ = joinG A B) := by show _ = _; rw [HGJ.out, HL2.out, HL1.out, HL0.out, HN2.out, HN1.out, HN0.out, HO2.out, HO1.out, HO0'.out]; rfl
             obtain ⟨b1, k1, hu1, hr1⟩ := own_row (els := GJ.lats.map LatD.cells) (by rw [flat_map_cells]; exact HT4.out.l) (fun l hl => by obtain ⟨d, _, rfl⟩ := List.mem_map.1 hl; rfl) (by decide)
             obtain ⟨b2, k2, hu2, hr2⟩ := own_row (els := GJ.ands.map AndD.cells) (by rw [flat_map_cells]; exact HT4.out.a) (fun l hl => by obtain ⟨d, _, rfl⟩ := List.mem_map.1 hl; rfl) (by decide)
             obtain ⟨b3, k3, hu3, hr3⟩ := own_row (els := GJ.outs.map intC) (by rw [flat_ints]; exact HT4.out.o) (fun l hl => by obtain ⟨d, _, rfl⟩ := List.mem_map.1 hl; rfl) (by decide)
             have g0 : V6.cell? ⟨gb, 0, none⟩ = some (.int .i64 A.ins) := (cell_of_row _ _ 0 _ _ (0, 0) HT4.out.box).trans rfl
             have g1 : V6.cell? ⟨gb, 1, none⟩ = some (.slice b1 GJ.lats.length k1) := by rw [← hu1]; exact HT4.out.fld 1 (by decide)
             have g2 : V6.cell? ⟨gb, 2, none⟩ = some (.slice b2 GJ.ands.length k2) := by rw [← hu2]; exact HT4.out.fld 2 (by decide)
             have g3 : V6.cell? ⟨gb, 3, none⟩ = some (.slice b3 GJ.outs.length k3) := by rw [← hu3]; exact HT4.out.fld 3 (by decide)
             have HRW := hidden (show RowAt V6.heap.size V6 b1 2 (GJ.lats.map LatD.cells) ∧ RowAt V6.heap.size V6 b2 2 (GJ.ands.map AndD.cells) ∧ RowAt V6.heap.size V6 b3 1 (GJ.outs.map intC) from ⟨hr1, hr2, hr3⟩)
             have HNR : Hid ((∀ x, b1 = some x → C ≤ x.block) ∧ (∀ x, b2 = some x → C ≤ x.block) ∧ (∀ x, b3 = some x → C ≤ x.block)) := ⟨fun x hx => (HT4.out.ps.2 1 x.block (by rw [hu1, hx]; rfl)).1, fun x hx => (HT4.out.ps.2 2 x.block (by rw [hu2, hx]; rfl)).1, fun x hx => (HT4.out.ps.2 3 x.block (by rw [hu3, hx]; rfl)).1⟩
             have r0 := cell_of_row _ _ 0 _ _ (0, 0) HR4.out
             have r1 := cell_of_row _ _ 1 _ _ (0, 0) HR4.out
             have r2 := cell_of_row _ _ 2 _ _ (0, 0) HR4.out
             have r3 := cell_of_row _ _ 3 _ _ (0, 0) HR4.out
             have y0 := frozen_of_row _ _ 0 _ _ HR4.out
             have y1 := frozen_of_row _ _ 1 _ _ HR4.out
             have y2 := frozen_of_row _ _ 2 _ _ HR4.out
             have y3 := frozen_of_row _ _ 3 _ _ HR4.out
             simp at r0 r1 r2 r3
             have hLB : GJ.lats.length < big ∧ GJ.ands.length < big ∧ GJ.outs.length < big := by
              rw [HGJ.out]
              simp only [big]
              exact ⟨by omega, by omega, by omega⟩
             have HLB := hidden hLB
             have hins : A.ins = GJ.ins := by rw [HGJ.out]
             have HINS := hidden hins
             obtain ⟨n1, HNQ1⟩ : ∃ n, Hid (n = GJ.lats.length) := ⟨_, rfl⟩
             obtain ⟨n2, HNQ2⟩ : ∃ n, Hid (n = GJ.ands.length) := ⟨_, rfl⟩
             obtain ⟨n3, HNQ3⟩ : ∃ n, Hid (n = GJ.outs.length) := ⟨_, rfl⟩
             obtain ⟨ni, HNI⟩ : ∃ x, Hid (x = A.ins) := ⟨_, rfl⟩
             rw [← HNQ1.out] at g1
             rw [← HNQ2.out] at g2
             rw [← HNQ3.out] at g3
             rw [← HNI.out] at g0
             clear hu1 hu2 hu3 hr1 hr2 hr3 hLB hins
             go_wp2
             clear gS
             obtain ⟨z0, z1, z2, z3⟩ := set4 r0 r1 r2 r3 (.int .i64 ni) (.slice b1 n1 k1) (.slice b2 n2 k2) (.slice b3 n3 k3)
             have HG9 : Hid (V6.grownBy ((((V6.setCell ⟨rb, 0, none⟩ (.int .i64 ni)).setCell ⟨rb, 1, none⟩ (.slice b1 n1 k1)).setCell ⟨rb, 2, none⟩ (.slice b2 n2 k2)).setCell ⟨rb, 3, none⟩ (.slice b3 n3 k3)) (some rb)) := grown_trans' (grown_trans' (grown_trans' (gset _ _ _ _) (gset _ _ _ _)) (gset _ _ _ _)) (gset _ _ _ _)
             generalize World.setCell _ (⟨rb, 3, none⟩ : Addr) _ = w9 at HG9 z0 z1 z2 z3 ⊢
             clear r0 r1 r2 r3 y0 y1 y2 y3 g0 g1 g2 g3
             (try simp only [Exit.inBlock, Exit.then])
             refine bodyPost_ret (fn := Try.f26) (v := .agg #[.int .i64 ni, .slice b1 n1 k1, .slice b2 n2 k2, .slice b3 n3 k3]) ?_ rfl ?_
             ·simp [results, Try.results26, go_sem, *]
             have hk : ∀ (a' : Option Addr) (els : List (List Value)) (sz : Nat), RowAt V6.heap.size V6 a' sz els → (∀ x, a' = some x → C ≤ x.block) → RowAt w9.heap.size w9 a' sz els := fun a' els sz hr hc he => by
              obtain ⟨b, o, ha, hlt, hcell⟩ := hr he
              have hbC : C ≤ b := hc _ ha
              refine ⟨b, o, ha, Nat.lt_of_lt_of_le hlt HG9.out.size, fun i l' hl j v hv => ?_⟩
              refine (World.cell?_of_block (HG9.out.block b hlt (fun e => ?_))).trans (hcell i l' hl j v hv)
              have := Option.some.inj e
              have := HC.out
              omega
             have hbw4 : Below w.heap.size w V6 := HBW0.out.trans (HQv6.out.mono (by rw [HC.out]; exact hws))
             refine ⟨⟨b1, k1, b2, k2, b3, k3⟩, ?_, ?_, hbw4.trans (below_of HG9.out hwr hbw4.size)⟩
             ·rw [← HJE.out]
              show _ = Ending.returned (.agg #[.int .i64 GJ.ins, .slice b1 GJ.lats.length k1, .slice b2 GJ.ands.length k2, .slice b3 GJ.outs.length k3])
              rw [HNQ1.out, HNQ2.out, HNQ3.out, HNI.out, HINS.out]
             ·rw [← HJE.out]
              exact ⟨hk _ _ _ HRW.out.1 HNR.out.1, hk _ _ _ HRW.out.2.1 HNR.out.2.1, hk _ _ _ HRW.out.2.2 HNR.out.2.2, HLB.out.1, HLB.out.2.1, HLB.out.2.2⟩
end Go.Proofs.Ytefjicdhccfieaa
