import Derived.Test.YtefjicdhccfieaaK01
import Derived.Test.YtefjicdhccfieaaK17
import Derived.Test.YtefjicdhccfieaaK19
set_option maxRecDepth 100000
set_option maxHeartbeats 16000000
namespace Go.Proofs.Ytefjicdhccfieaa
open Go.RowKit
theorem set4 {w : World} {b : Nat} {o0 o1 o2 o3 : Value} (h0 : w.cell? ⟨b, 0, none⟩ = some o0) (h1 : w.cell? ⟨b, 1, none⟩ = some o1) (h2 : w.cell? ⟨b, 2, none⟩ = some o2) (h3 : w.cell? ⟨b, 3, none⟩ = some o3) (x0 x1 x2 x3 : Value) :
  ((((w.setCell ⟨b, 0, none⟩ x0).setCell ⟨b, 1, none⟩ x1).setCell ⟨b, 2, none⟩ x2).setCell ⟨b, 3, none⟩ x3).cell? ⟨b, 0, none⟩ = some x0 ∧ ((((w.setCell ⟨b, 0, none⟩ x0).setCell ⟨b, 1, none⟩ x1).setCell ⟨b, 2, none⟩ x2).setCell ⟨b, 3, none⟩ x3).cell? ⟨b, 1, none⟩ = some x1 ∧ ((((w.setCell ⟨b, 0, none⟩ x0).setCell ⟨b, 1, none⟩ x1).setCell ⟨b, 2, none⟩ x2).setCell ⟨b, 3, none⟩ x3).cell? ⟨b, 2, none⟩ = some x2 ∧ ((((w.setCell ⟨b, 0, none⟩ x0).setCell ⟨b, 1, none⟩ x1).setCell ⟨b, 2, none⟩ x2).setCell ⟨b, 3, none⟩ x3).cell? ⟨b, 3, none⟩ = some x3 := by
 have n : ∀ i j : Nat, i ≠ j → (⟨b, i, none⟩ : Addr) ≠ ⟨b, j, none⟩ := fun i j h e => h (by injection e)
 have o : ∀ (w : World) (i j : Nat) (x : Value), i ≠ j → (w.setCell ⟨b, i, none⟩ x).cell? ⟨b, j, none⟩ = w.cell? ⟨b, j, none⟩ := fun w i j x h => by apply World.cell?_setCell_other; exact n i j h
 refine ⟨?_, ?_, ?_, ?_⟩
 ·rw [o _ 3 0 _ (by decide), o _ 2 0 _ (by decide), o _ 1 0 _ (by decide)]; apply World.cell?_setCell_same; exact h0
 ·rw [o _ 3 1 _ (by decide), o _ 2 1 _ (by decide)]; apply World.cell?_setCell_same; exact ((o _ 0 1 _ (by decide)).trans h1)
 ·rw [o _ 3 2 _ (by decide)]; apply World.cell?_setCell_same; exact ((o _ 1 2 _ (by decide)).trans ((o _ 0 2 _ (by decide)).trans h2))
 ·apply World.cell?_setCell_same; exact ((o _ 2 3 _ (by decide)).trans ((o _ 1 3 _ (by decide)).trans ((o _ 0 3 _ (by decide)).trans h3)))
theorem flat_map_cells {α : Type} (f : α → List Value) (l : List α) : (l.map f).flatten = l.flatMap f := by
 induction l with
 | nil => rfl
 | cons a r ih => simp [ih]
def joinG (A B : GrD) : GrD := takeG (takeG ⟨A.ins, [], [], []⟩ A 0 B.lats.length) B A.lats.length (A.lats.length + A.ands.length)
structure OkB (G : GrD) : Prop where
 i0 : 0 ≤ G.ins
 i1 : G.ins ≤ 60000
 l1 : G.lats.length ≤ 6000
 a1 : G.ands.length ≤ 60000
 o1 : G.outs.length ≤ 60000
 v1 : G.vars ≤ 60000
 andL : ∀ d, d ∈ G.ands → (0 ≤ d.x ∧ d.x ≤ 120000) ∧ (0 ≤ d.y ∧ d.y ≤ 120000)
 latL : ∀ d, d ∈ G.lats → 0 ≤ d.next ∧ d.next ≤ 120000
 outL : ∀ x, x ∈ G.outs → 0 ≤ x ∧ x ≤ 120000
theorem okB_of {G : GrD} (h : GrOk G = true) : OkB G := by
 unfold GrOk at h
 rw [Bool.and_eq_true, Bool.and_eq_true, Bool.and_eq_true] at h
 obtain ⟨⟨⟨h1, h2⟩, h3⟩, h4⟩ := h
 have hs := of_decide_eq_true h1
 obtain ⟨s1, s2, s3, s4, s5⟩ := hs
 have hv : G.vars = 1 + G.ins + G.lats.length + G.ands.length := rfl
 have hf : G.first = 1 + G.ins + G.lats.length := rfl
 refine ⟨s1, s2, s3, by omega, s4, s5, fun d hd => ?_, fun d hd => ?_, fun x hx => ?_⟩
 ·obtain ⟨i, hi⟩ := List.getElem?_of_mem hd
  have hil := (List.getElem?_eq_some_iff.1 hi).1
  have := List.all_eq_true.1 h2 i (List.mem_range.2 hil)
  rw [andOk_of hi, Bool.and_eq_true] at this
  have q1 := of_decide_eq_true this.1
  have q2 := of_decide_eq_true this.2
  omega
 ·have := of_decide_eq_true (List.all_eq_true.1 h3 d hd)
  omega
 ·have := of_decide_eq_true (List.all_eq_true.1 h4 x hx)
  omega
theorem mvF_le {P : GrD} {fl fg l : Int} (hl : 0 ≤ l ∧ l ≤ 120000) (hfl : 0 ≤ fl ∧ fl ≤ 100000) (hfg : 0 ≤ fg ∧ fg ≤ 100000) : 0 ≤ mvF P fl fg l ∧ mvF P fl fg l ≤ 4000000 := by
 unfold mvF
 split
 ·omega
 ·split <;> omega
theorem takeG_lens (G0 Q : GrD) (fl fg : Int) : (takeG G0 Q fl fg).lats.length = G0.lats.length + Q.lats.length ∧ (takeG G0 Q fl fg).ands.length = G0.ands.length + Q.ands.length ∧ (takeG G0 Q fl fg).outs.length = G0.outs.length + Q.outs.length := by simp [takeG]
def JnP (w : World) (G : GrD) (e : Ending) (w' : World) : Prop := ∃ T : GrS, e = .returned (.agg (T.cells G)) ∧ GrAt w'.heap.size w' T G ∧ Below w.heap.size w w'
def JnQ (w : World) (G : GrD) (e : Ending) (w' : World) : Prop := ∃ T : GrS, e = .returned (.agg (T.cells G)) ∧ GrAt w'.heap.size w' T G ∧ Below w.heap.size w w' ∧ (∀ x, T.a1 = some x → w.heap.size ≤ x.block) ∧ (∀ x, T.a2 = some x → w.heap.size ≤ x.block) ∧ ∀ x, T.a3 = some x → w.heap.size ≤ x.block
theorem joined_new (B0 : Nat) (w : World) (pa pb : Nat) (SA SB : GrS) (A B : GrD) (hXA : BoxAt w pa SA A) (hXB : BoxAt w pb SB B) (hA : GrAt B0 w SA A) (hB : GrAt B0 w SB B) (hB0 : B0 ≤ w.heap.size) (okA : OkB A) (okB : OkB B) :
  Calls Try.prog 32 #[.pointer (some ⟨pa, 0, none⟩), .pointer (some ⟨pb, 0, none⟩)] w fun e w' => JnQ w (joinG A B) e w' := by
 have HXA := hidden hXA
 have HXB := hidden hXB
 have HA := hidden hA
 have HB := hidden hB
 have HOA := hidden okA
 have HOB := hidden okB
 obtain ⟨la, HLA⟩ : ∃ n, Hid (n = A.lats.length) := ⟨_, rfl⟩
 obtain ⟨lb, HLB⟩ : ∃ n, Hid (n = B.lats.length) := ⟨_, rfl⟩
 obtain ⟨na, HNA⟩ : ∃ n, Hid (n = A.ands.length) := ⟨_, rfl⟩
 obtain ⟨nb, HNB⟩ : ∃ n, Hid (n = B.ands.length) := ⟨_, rfl⟩
 have hsz : la ≤ 6000 ∧ lb ≤ 6000 ∧ na ≤ 60000 ∧ nb ≤ 60000 := by rw [HLA.out, HLB.out, HNA.out, HNB.out]; exact ⟨okA.l1, okB.l1, okA.a1, okB.a1⟩
 clear hXA hXB hA hB okA okB
 go_enter Try.func32, Try.ntmps32
 go_upto_region 1 with fail
 generalize hW1 : World.alloc w _ = w1
 obtain ⟨rb, hrb⟩ : ∃ x, x = w.heap.size := ⟨_, rfl⟩
 have HB1 : Hid (Below w.heap.size w w1) := by rw [← hW1]; exact (Below.refl _ _).alloc (Nat.le_refl _) _
 have HR1 : Hid (w1.heap[rb]? = some (.cells #[.int .i64 0, .slice none 0 0, .slice none 0 0, .slice none 0 0] 30 (0, 0))) := by rw [← hW1, hrb]; exact heap_new _ _
 have hrl : rb < w1.heap.size := by rw [← hW1, hrb]; simp
 have hwr : w.heap.size ≤ rb := by omega
 rw [← hrb]
 clear hW1 hrb
 have HXA1 := hidden (HXA.out.to HXA.out.lt HB1.out)
 have HXB1 := hidden (HXB.out.to HXB.out.lt HB1.out)
 obtain ⟨C, HC⟩ : ∃ x, Hid (x = w1.heap.size) := ⟨_, rfl⟩
 have hpa : pa < C := by rw [HC.out]; exact HXA1.out.lt
 have hpb : pb < C := by rw [HC.out]; exact HXB1.out.lt
 have hBC : B0 ≤ C := by rw [HC.out]; exact Nat.le_trans hB0 HB1.out.size
 have HGA : Hid (∀ w', Below C w1 w' → GrAt C w' SA A) := fun w' hb => ((HA.out.to (HB1.out.mono hB0)).mono hBC).to hb
 have HGB : Hid (∀ w', Below C w1 w' → GrAt C w' SB B) := fun w' hb => ((HB.out.to (HB1.out.mono hB0)).mono hBC).to hb
 refine joined_head w1 pa pb rb SA SB A B HXA1.out HXB1.out la lb na nb A.outs.length B.outs.length HLA.out HLB.out HNA.out HNB.out rfl rfl ⟨by omega, by omega, by omega, by omega, by have := HOA.out.o1; omega, by have := HOB.out.o1; omega⟩ _ ?_
 intro gb s6 s7 s8 s9 s10 s11 s12 s13 s14 s15 s16 s17 s18 s19 s20 s21 s22 s23 s24 s25 s26 s27 s28 s29 s30 s31 s32 s33 s34 s35 s36 s37 s38 s39 s40 s41 s42 s43 s44 s45 s46 w2 hm
 obtain ⟨u2, ht2, hb2⟩ := hm
 rw [← HC.out] at ht2 hb2
 have HT2 := hidden ht2
 have HB2 := hidden hb2
 have q1 : w2.cell? ⟨pb, 1, none⟩ = some (.slice SB.a1 lb SB.c1) := by rw [HLB.out]; exact (HXB1.out.to hpb hb2).c1
 have TA := hidden (take_any C w2 gb A.ins ⟨A.ins, [], [], []⟩ u2 ht2 pa SA A (HXA1.out.to hpa hb2) (HGA.out w2 hb2) hpa 0 lb ⟨by omega, by omega⟩ ⟨by omega, by omega⟩ ⟨HOA.out.i0, HOA.out.i1, by have := HOA.out.l1; omega, by have := HOA.out.a1; omega, by have := HOA.out.o1; omega⟩ (fun d hd => by have := HOA.out.latL d hd; omega) (fun d hd => by have := HOA.out.andL d hd; omega) (fun x hx => by have := HOA.out.outL x hx; omega) (Nat.zero_le _) (Nat.zero_le _) (Nat.zero_le _))
 clear ht2 hb2
 go_wp2_with fail
 go_at_call 60
 refine TA.out.mono ?_
 rintro e w3 ⟨rfl, hk3⟩
 obtain ⟨u3, ht3, hb3⟩ := hk3
 have HT3 := hidden ht3
 have HB3 : Hid (Below C w1 w3) := HB2.out.trans hb3
 clear ht3 hb3 TA q1
 obtain ⟨G1, HG1⟩ : ∃ G, Hid (G = takeG ⟨A.ins, [], [], []⟩ A 0 lb) := ⟨_, rfl⟩
 rw [← HG1.out] at HT3
 have HL1 : Hid (G1.lats.length ≤ 100000 ∧ G1.ands.length ≤ 100000 ∧ G1.outs.length ≤ 100000) := by
  rw [HG1.out]
  obtain ⟨t1, t2, t3⟩ := takeG_lens ⟨A.ins, [], [], []⟩ A 0 lb
  rw [t1, t2, t3]
  have := HOA.out.l1; have := HOA.out.a1; have := HOA.out.o1
  simp only [List.length_nil]
  exact ⟨by omega, by omega, by omega⟩
 obtain ⟨ln, HLN⟩ : ∃ x : Int, Hid (x = (la : Int) + (na : Int)) := ⟨_, rfl⟩
 have hln : 0 ≤ ln ∧ ln ≤ 66000 := by rw [HLN.out]; omega
 have e1 : IntKind.i64.wrap ((la : Int) + (na : Int)) = ln := by rw [← HLN.out]; exact wrapI _ (by omega) (by omega)
 have TB : Hid (∀ w', Below w3.heap.size w3 w' → Calls Try.prog 60 #[.pointer (some ⟨gb, 0, none⟩), .pointer (some ⟨pb, 0, none⟩), .int .i64 (la : Int), .int .i64 ln] w' fun e w'' => e = .returned (.tuple #[]) ∧ TakeP C w' gb A.ins (takeG G1 B la ln) w'') := fun w' hb => by
  have hbC : Below C w1 w' := HB3.out.trans (hb.mono HT3.out.size)
  exact take_any C w' gb A.ins G1 u3 (HT3.out.rest hb) pb SB B (HXB1.out.to hpb hbC) (HGB.out w' hbC) hpb la ln ⟨by omega, by omega⟩ ⟨by omega, by omega⟩ ⟨HOB.out.i0, HOB.out.i1, by have := HOB.out.l1; omega, by have := HOB.out.a1; omega, by have := HOB.out.o1; omega⟩ (fun d hd => by have := HOB.out.latL d hd; omega) (fun d hd => by have := HOB.out.andL d hd; omega) (fun x hx => by have := HOB.out.outL x hx; omega) HL1.out.1 HL1.out.2.1 HL1.out.2.2
 have K4 : Hid (∀ w', Below C w1 w' → (fun w' => w'.cell? ⟨pa, 1, none⟩ = some (.slice SA.a1 la SA.c1) ∧ w'.cell? ⟨pa, 2, none⟩ = some (.slice SA.a2 na SA.c2)) w') := fun w' hb => by
  have a := HXA1.out.to hpa hb
  rw [HLA.out, HNA.out]; exact ⟨a.c1, a.c2⟩
 have K1 : Hid (∀ w', Below w3.heap.size w3 w' → (fun w' => w'.cell? ⟨pa, 1, none⟩ = some (.slice SA.a1 la SA.c1) ∧ w'.cell? ⟨pa, 2, none⟩ = some (.slice SA.a2 na SA.c2)) w') := fun w' hb => K4.out w' (HB3.out.trans (hb.mono HT3.out.size))
 go_upto_region 3 with fail
 refine wp_region_noPanic ?_
 refine wp_region_held_drew (S := (fun w' => w'.cell? ⟨pa, 1, none⟩ = some (.slice SA.a1 la SA.c1) ∧ w'.cell? ⟨pa, 2, none⟩ = some (.slice SA.a2 na SA.c2))) (by kernel_rfl) (by first | assumption | exact K1.out _ (Below.refl _ _) | exact K1.out _ (Below.drew (Below.refl _ _)) | exact K1.out _ (by assumption)) (fun hHeld => ?_)
 refine tk 0 ?_
 refine tk 1 ?_
 refine tk 2 ?_
 refine tk 3 ?_
 refine tk 4 ?_
 refine tk 5 ?_
 refine tk 6 ?_
 refine tk 7 ?_
 refine tk 8 ?_
 refine tk 9 ?_
 refine tk 10 ?_
 refine tk 11 ?_
 refine tk 12 ?_
 refine tk 13 ?_
 refine tk 14 ?_
 refine tk 15 ?_
 refine tk 16 ?_
 refine wpAnyH_ready (rs := [17]) (by kernel_rfl) (by simp) ?_
 refine AllReadyH.cons (o := _) rfl (fun K hK => ?_) AllReadyH.nil
 (try simp only [gA, gB, gC])
 go_simp
 go_at_call 60
 refine (TB.out _ (Below.drew (Below.refl w3.heap.size w3))).mono ?_
 rintro e w4 ⟨rfl, hk4⟩
 have hb4 : Below C w1 w4 := HB3.out.trans ((Below.drew (Below.refl C w3)).trans hk4.choose_spec.2)
 go_wp2_with fail
 refine hK.out _ _ (by first | assumption | exact K4.out _ hb4) (fun hHeld1 => ?_)
 clear hK K
 try simp only [Act.put, sA, sB, sC]
 refine wpAnyH_done (by kernel_rfl) ?_ _
 refine NoPanic.normal ?_
 try clear hHeld
 try clear hHeld1
 have HK4 := hidden hk4
 have HB4 := hidden hb4
 obtain ⟨u4, ht4, -⟩ := HK4.out
 have HT4 := hidden ht4
 have HR4 : Hid (w4.heap[rb]? = some (.cells #[.int .i64 0, .slice none 0 0, .slice none 0 0, .slice none 0 0] 30 (0, 0))) := (hb4.block rb (by rw [HC.out]; exact hrl)).trans HR1.out
 clear hk4 hb4 ht4 K1 K4 TB
 obtain ⟨GJ, HGJ⟩ : ∃ G, Hid (G = takeG G1 B la ln) := ⟨_, rfl⟩
 rw [← HGJ.out] at HT4
 have HJE : Hid (GJ = joinG A B) := by show _ = _; rw [HGJ.out, HG1.out, HLN.out, HLA.out, HNA.out, HLB.out]; rfl
 obtain ⟨b1, k1, hu1, hr1⟩ := own_row (els := GJ.lats.map LatD.cells) (by rw [flat_map_cells]; exact HT4.out.l) (fun l hl => by obtain ⟨d, _, rfl⟩ := List.mem_map.1 hl; rfl) (by decide)
 obtain ⟨b2, k2, hu2, hr2⟩ := own_row (els := GJ.ands.map AndD.cells) (by rw [flat_map_cells]; exact HT4.out.a) (fun l hl => by obtain ⟨d, _, rfl⟩ := List.mem_map.1 hl; rfl) (by decide)
 obtain ⟨b3, k3, hu3, hr3⟩ := own_row (els := GJ.outs.map intC) (by rw [flat_ints]; exact HT4.out.o) (fun l hl => by obtain ⟨d, _, rfl⟩ := List.mem_map.1 hl; rfl) (by decide)
 have g0 : w4.cell? ⟨gb, 0, none⟩ = some (.int .i64 A.ins) := (cell_of_row _ _ 0 _ _ (0, 0) HT4.out.box).trans rfl
 have g1 : w4.cell? ⟨gb, 1, none⟩ = some (.slice b1 GJ.lats.length k1) := by rw [← hu1]; exact HT4.out.fld 1 (by decide)
 have g2 : w4.cell? ⟨gb, 2, none⟩ = some (.slice b2 GJ.ands.length k2) := by rw [← hu2]; exact HT4.out.fld 2 (by decide)
 have g3 : w4.cell? ⟨gb, 3, none⟩ = some (.slice b3 GJ.outs.length k3) := by rw [← hu3]; exact HT4.out.fld 3 (by decide)
 have HRW := hidden (show RowAt w4.heap.size w4 b1 2 (GJ.lats.map LatD.cells) ∧ RowAt w4.heap.size w4 b2 2 (GJ.ands.map AndD.cells) ∧ RowAt w4.heap.size w4 b3 1 (GJ.outs.map intC) from ⟨hr1, hr2, hr3⟩)
 have HNR : Hid ((∀ x, b1 = some x → C ≤ x.block) ∧ (∀ x, b2 = some x → C ≤ x.block) ∧ (∀ x, b3 = some x → C ≤ x.block)) := ⟨fun x hx => (HT4.out.ps.2 1 x.block (by rw [hu1, hx]; rfl)).1, fun x hx => (HT4.out.ps.2 2 x.block (by rw [hu2, hx]; rfl)).1, fun x hx => (HT4.out.ps.2 3 x.block (by rw [hu3, hx]; rfl)).1⟩
 have r0 := cell_of_row _ _ 0 _ _ (0, 0) HR4.out
 have r1 := cell_of_row _ _ 1 _ _ (0, 0) HR4.out
 have r2 := cell_of_row _ _ 2 _ _ (0, 0) HR4.out
 have r3 := cell_of_row _ _ 3 _ _ (0, 0) HR4.out
 have y0 := frozen_of_row _ _ 0 _ _ HR4.out
 have y1 := frozen_of_row _ _ 1 _ _ HR4.out
 have y2 := frozen_of_row _ _ 2 _ _ HR4.out
 have y3 := frozen_of_row _ _ 3 _ _ HR4.out
 simp at r0 r1 r2 r3
 have hLB : GJ.lats.length < big ∧ GJ.ands.length < big ∧ GJ.outs.length < big := by
  rw [HGJ.out]
  obtain ⟨t1, t2, t3⟩ := takeG_lens G1 B la ln
  rw [t1, t2, t3]
  have := HL1.out; have := HOB.out.l1; have := HOB.out.a1; have := HOB.out.o1
  simp only [big]
  exact ⟨by omega, by omega, by omega⟩
 have HLB := hidden hLB
 have hins : A.ins = GJ.ins := by rw [HGJ.out]; unfold takeG; rw [HG1.out]; rfl
 have HINS := hidden hins
 obtain ⟨n1, HN1⟩ : ∃ n, Hid (n = GJ.lats.length) := ⟨_, rfl⟩
 obtain ⟨n2, HN2⟩ : ∃ n, Hid (n = GJ.ands.length) := ⟨_, rfl⟩
 obtain ⟨n3, HN3⟩ : ∃ n, Hid (n = GJ.outs.length) := ⟨_, rfl⟩
 obtain ⟨ni, HNI⟩ : ∃ x, Hid (x = A.ins) := ⟨_, rfl⟩
 rw [← HN1.out] at g1
 rw [← HN2.out] at g2
 rw [← HN3.out] at g3
 rw [← HNI.out] at g0
 clear hu1 hu2 hu3 hr1 hr2 hr3 hLB hins
 go_wp2
 obtain ⟨z0, z1, z2, z3⟩ := set4 r0 r1 r2 r3 (.int .i64 ni) (.slice b1 n1 k1) (.slice b2 n2 k2) (.slice b3 n3 k3)
 have HG9 : Hid (w4.grownBy ((((w4.setCell ⟨rb, 0, none⟩ (.int .i64 ni)).setCell ⟨rb, 1, none⟩ (.slice b1 n1 k1)).setCell ⟨rb, 2, none⟩ (.slice b2 n2 k2)).setCell ⟨rb, 3, none⟩ (.slice b3 n3 k3)) (some rb)) := grown_trans' (grown_trans' (grown_trans' (gset _ _ _ _) (gset _ _ _ _)) (gset _ _ _ _)) (gset _ _ _ _)
 generalize World.setCell _ (⟨rb, 3, none⟩ : Addr) _ = w9 at HG9 z0 z1 z2 z3 ⊢
 clear r0 r1 r2 r3 y0 y1 y2 y3 g0 g1 g2 g3
 refine bodyPost_ret (v := .agg #[.int .i64 ni, .slice b1 n1 k1, .slice b2 n2 k2, .slice b3 n3 k3]) (by simp [results, Try.results32, go_sem, *]) rfl ?_
 have hk : ∀ (a' : Option Addr) (els : List (List Value)) (sz : Nat), RowAt w4.heap.size w4 a' sz els → (∀ x, a' = some x → C ≤ x.block) → RowAt w9.heap.size w9 a' sz els := fun a' els sz hr hc he => by
  obtain ⟨b, o, ha, hlt, hcell⟩ := hr he
  have hbC : C ≤ b := hc _ ha
  refine ⟨b, o, ha, Nat.lt_of_lt_of_le hlt HG9.out.size, fun i l' hl j v hv => ?_⟩
  refine (World.cell?_of_block (HG9.out.block b hlt (fun e => ?_))).trans (hcell i l' hl j v hv)
  have := Option.some.inj e
  have := HC.out
  omega
 have hbw4 : Below w.heap.size w w4 := HB1.out.trans (HB4.out.mono (by rw [HC.out]; exact HB1.out.size))
 have hwCs : w.heap.size ≤ C := by rw [HC.out]; exact HB1.out.size
 refine ⟨⟨b1, k1, b2, k2, b3, k3⟩, ?_, ?_, hbw4.trans (below_of HG9.out hwr hbw4.size), fun x hx => Nat.le_trans hwCs (HNR.out.1 x hx), fun x hx => Nat.le_trans hwCs (HNR.out.2.1 x hx), fun x hx => Nat.le_trans hwCs (HNR.out.2.2 x hx)⟩
 ·rw [← HJE.out]
  show _ = Ending.returned (.agg #[.int .i64 GJ.ins, .slice b1 GJ.lats.length k1, .slice b2 GJ.ands.length k2, .slice b3 GJ.outs.length k3])
  rw [HN1.out, HN2.out, HN3.out, HNI.out, HINS.out]
 ·rw [← HJE.out]
  exact ⟨hk _ _ _ HRW.out.1 HNR.out.1, hk _ _ _ HRW.out.2.1 HNR.out.2.1, hk _ _ _ HRW.out.2.2 HNR.out.2.2, HLB.out.1, HLB.out.2.1, HLB.out.2.2⟩
theorem joined_any (B0 : Nat) (w : World) (pa pb : Nat) (SA SB : GrS) (A B : GrD) (hXA : BoxAt w pa SA A) (hXB : BoxAt w pb SB B) (hA : GrAt B0 w SA A) (hB : GrAt B0 w SB B) (hB0 : B0 ≤ w.heap.size) (okA : OkB A) (okB : OkB B) :
  Calls Try.prog 32 #[.pointer (some ⟨pa, 0, none⟩), .pointer (some ⟨pb, 0, none⟩)] w fun e w' => JnP w (joinG A B) e w' :=
 (joined_new B0 w pa pb SA SB A B hXA hXB hA hB hB0 okA okB).mono (fun _ _ ⟨T, h1, h2, h3, _⟩ => ⟨T, h1, h2, h3⟩)
end Go.Proofs.Ytefjicdhccfieaa
