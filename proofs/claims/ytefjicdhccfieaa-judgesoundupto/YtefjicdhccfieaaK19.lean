import Derived.Test.YtefjicdhccfieaaK01
import Derived.Test.YtefjicdhccfieaaK18
set_option maxRecDepth 100000
set_option maxHeartbeats 16000000
namespace Go.Proofs.Ytefjicdhccfieaa
open Go.RowKit
theorem step_make_own {P : Program} {ops : Array Oper} {o : Oper} {a : Act} {w : World} {K : Act → World → Prop} {Q : Exit → Act → World → Prop} {E : Prop} (hg : o.guard = none) (l c : Operand) (t : TypeId) (hop : o.op = Op.makeSlice t l c)
  (base : Nat) (e : TypeId) (i : TypeInfo) (z : Value) (size : Nat) (h1 : P.underlying t = some (.slice e)) (h2 : P.info? e = some i) (h3 : i.zero = some z) (h4 : i.size = size)
  (kl kc : IntKind) (C : Int) (n : Nat) (hl : a.eval l = .int kl 0) (hc : a.eval c = .int kc C) (hC : C = (n : Int)) (b2 : i.bytes * n ≤ 281474976710656) (b3 : n ≤ maxLen) (b4 : base ≤ w.heap.size)
  (h : ∀ w', w'.ownsRow base e size (.slice (some ⟨w.heap.size, 0, none⟩) 0 n) 0 [] → w.grownBy w' none → K (a.put o.dst (.slice (some ⟨w.heap.size, 0, none⟩) 0 n)) w') :
  if Region.wanted o (yielded ops a.tmps) = true then Oper.wp P o a w K Q else E := by
 have hw : Region.wanted o (yielded ops a.tmps) = true := by simp [Region.wanted, hg]
 rw [if_pos hw]
 obtain ⟨w', hrun, r1, r2⟩ := run_make_own (P := P) w base t e i z size h1 h2 h3 h4 kl kc n b2 b3 b4
 subst hC
 unfold Oper.wp
 simp [execOp, hop, hl, hc, hrun, Result.andThen]
 exact h w' r1 r2
theorem region_midJ {P : Program} {id : Nat} {ops : Array Oper} {b : Bool} {Q : Exit → Act → World → Prop} {a : Act} {w : World} (Pr : Act → World → Prop) (h1 : (Code.region id ops b).wp P (fun e a' w' => e = .normal ∧ Pr a' w') a w) (h2 : ∀ a' w', Pr a' w' → Q .normal a' w') : (Code.region id ops b).wp P Q a w :=
 Code.wp_mono (fun e a' w' h => by obtain ⟨rfl, h⟩ := h; exact h2 a' w' h) h1
def regAt (n : Nat) : Code → Option Code
 | .region m o d => if m = n then some (.region m o d) else none
 | .seq a b => match regAt n a with
  | some c => some c
  | none => regAt n b
 | .block _ c => regAt n c
 | .loop c => regAt n c
 | .scope c => regAt n c
 | .cond _ a b => match regAt n a with
  | some c => some c
  | none => regAt n b
 | _ => none
def MidJ (w1 : World) (gb : Nat) (ins : Int) (w' : World) : Prop := ∃ u, TkP w1.heap.size w' gb ins u ⟨ins, [], [], []⟩ [] ∧ Below w1.heap.size w1 w'
theorem tk_init {w1 F : World} {gb lb ab ob cl ca co : Nat} {ins : Int} (hbox : F.heap[gb]? = some (.cells #[.int .i64 0, .slice none 0 0, .slice none 0 0, .slice none 0 0] 30 (0, 0))) (hl : F.ownsRow w1.heap.size 55 2 (.slice (some ⟨lb, 0, none⟩) 0 cl) 0 []) (ha : F.ownsRow w1.heap.size 33 2 (.slice (some ⟨ab, 0, none⟩) 0 ca) 0 []) (ho : F.ownsRow w1.heap.size 3 1 (.slice (some ⟨ob, 0, none⟩) 0 co) 0 []) (d1 : gb ≠ lb) (d2 : gb ≠ ab) (d3 : gb ≠ ob) (d4 : lb ≠ ab) (d5 : lb ≠ ob) (d6 : ab ≠ ob) (hg : w1.heap.size ≤ gb) (hB : Below w1.heap.size w1 F) : MidJ w1 gb ins ((((F.setCell ⟨gb, 0, none⟩ (.int .i64 ins)).setCell ⟨gb, 1, none⟩ (.slice (some ⟨lb, 0, none⟩) 0 cl)).setCell ⟨gb, 2, none⟩ (.slice (some ⟨ab, 0, none⟩) 0 ca)).setCell ⟨gb, 3, none⟩ (.slice (some ⟨ob, 0, none⟩) 0 co)) := by
 have hgr : F.grownBy ((((F.setCell ⟨gb, 0, none⟩ (.int .i64 ins)).setCell ⟨gb, 1, none⟩ (.slice (some ⟨lb, 0, none⟩) 0 cl)).setCell ⟨gb, 2, none⟩ (.slice (some ⟨ab, 0, none⟩) 0 ca)).setCell ⟨gb, 3, none⟩ (.slice (some ⟨ob, 0, none⟩) 0 co)) (some gb) := grown_trans' (grown_trans' (grown_trans' (gset _ _ _ _) (gset _ _ _ _)) (gset _ _ _ _)) (gset _ _ _ _)
 obtain ⟨u, hu⟩ : ∃ u : Nat → Value, u = fun i => if i = 1 then .slice (some ⟨lb, 0, none⟩) 0 cl else if i = 2 then .slice (some ⟨ab, 0, none⟩) 0 ca else if i = 3 then .slice (some ⟨ob, 0, none⟩) 0 co else .slice none 0 0 := ⟨_, rfl⟩
 have u1 : u 1 = .slice (some ⟨lb, 0, none⟩) 0 cl := by rw [hu]; rfl
 have u2 : u 2 = .slice (some ⟨ab, 0, none⟩) 0 ca := by rw [hu]; rfl
 have u3 : u 3 = .slice (some ⟨ob, 0, none⟩) 0 co := by rw [hu]; rfl
 have ux : ∀ i k, (u i).ownBlock = some k → (i = 1 ∧ k = lb) ∨ (i = 2 ∧ k = ab) ∨ (i = 3 ∧ k = ob) := fun i k hk => by
  rw [hu] at hk
  dsimp only at hk
  by_cases e1 : i = 1
  ·rw [if_pos e1] at hk; exact .inl ⟨e1, (Option.some.inj hk).symm⟩
  ·rw [if_neg e1] at hk
   by_cases e2 : i = 2
   ·rw [if_pos e2] at hk; exact .inr (.inl ⟨e2, (Option.some.inj hk).symm⟩)
   ·rw [if_neg e2] at hk
    by_cases e3 : i = 3
    ·rw [if_pos e3] at hk; exact .inr (.inr ⟨e3, (Option.some.inj hk).symm⟩)
    ·rw [if_neg e3] at hk; cases hk
 refine ⟨u, ⟨?_, ?_, ?_, ?_, fun i j k h1 h2 => ?_, fun i e => ?_, hg, fun b hb => (by cases hb), fun i k hk => ?_⟩, hB.trans (below_of hgr hg hB.size)⟩
 ·rw [set_self (set_self (set_self (set_self hbox)))]
  rw [u1, u2, u3]
  simp
 ·rw [u1]; exact hl.kept hgr (.inr (fun e => d1 (Option.some.inj e).symm))
 ·rw [u2]; exact ha.kept hgr (.inr (fun e => d2 (Option.some.inj e).symm))
 ·rw [u3]; exact ho.kept hgr (.inr (fun e => d3 (Option.some.inj e).symm))
 ·have := ux i k h1
  have := ux j k h2
  omega
 ·have := ux i gb e
  omega
 ·have l1 := hl.lt lb rfl
  have l2 := ha.lt ab rfl
  have l3 := ho.lt ob rfl
  have hs := hgr.size
  rcases ux i k hk with ⟨_, rfl⟩ | ⟨_, rfl⟩ | ⟨_, rfl⟩ <;> omega
theorem joined_head (w1 : World) (pa pb rb : Nat) (SA SB : GrS) (A B : GrD) (hXA : BoxAt w1 pa SA A) (hXB : BoxAt w1 pb SB B) (la lb na nb oa ob : Nat) (hla : la = A.lats.length) (hlb : lb = B.lats.length) (hna : na = A.ands.length) (hnb : nb = B.ands.length) (hoa : oa = A.outs.length) (hob : ob = B.outs.length) (hs : la ≤ 100000 ∧ lb ≤ 100000 ∧ na ≤ 100000 ∧ nb ≤ 100000 ∧ oa ≤ 100000 ∧ ob ≤ 100000) (Q : Exit → Act → World → Prop)
  (HQ : ∀ gb s6 s7 s8 s9 s10 s11 s12 s13 s14 s15 s16 s17 s18 s19 s20 s21 s22 s23 s24 s25 s26 s27 s28 s29 s30 s31 s32 s33 s34 s35 s36 s37 s38 s39 s40 s41 s42 s43 s44 s45 s46 w', MidJ w1 gb A.ins w' → Q .normal ⟨#[.pointer (some ⟨pa, 0, none⟩), .pointer (some ⟨pb, 0, none⟩), undef, undef, .pointer (some ⟨rb, 0, none⟩), .pointer (some ⟨gb, 0, none⟩), s6, s7, s8, s9, s10, s11, s12, s13, s14, s15, s16, s17, s18, s19, s20, s21, s22, s23, s24, s25, s26, s27, s28, s29, s30, s31, s32, s33, s34, s35, s36, s37, s38, s39, s40, s41, s42, s43, s44, s45, s46, undef, undef, undef, undef, undef, undef, undef, undef, undef, undef, undef, undef, undef, undef, undef, undef, undef, undef, undef, undef, undef, undef, undef, undef, undef, undef], []⟩ w') :
  Code.wp Try.prog ((Try.f32.body.bind (regAt 1)).getD .skip) Q ⟨#[.pointer (some ⟨pa, 0, none⟩), .pointer (some ⟨pb, 0, none⟩), undef, undef, .pointer (some ⟨rb, 0, none⟩), undef, undef, undef, undef, undef, undef, undef, undef, undef, undef, undef, undef, undef, undef, undef, undef, undef, undef, undef, undef, undef, undef, undef, undef, undef, undef, undef, undef, undef, undef, undef, undef, undef, undef, undef, undef, undef, undef, undef, undef, undef, undef, undef, undef, undef, undef, undef, undef, undef, undef, undef, undef, undef, undef, undef, undef, undef, undef, undef, undef, undef, undef, undef, undef, undef, undef, undef, undef], []⟩ w1 := by
 have HQ' := hidden HQ
 have K1 : Hid (∀ w', Below w1.heap.size w1 w' → (fun w' => w'.cell? ⟨pa, 0, none⟩ = some (.int .i64 A.ins) ∧ w'.cell? ⟨pa, 1, none⟩ = some (.slice SA.a1 la SA.c1) ∧ w'.cell? ⟨pb, 1, none⟩ = some (.slice SB.a1 lb SB.c1) ∧ w'.cell? ⟨pa, 2, none⟩ = some (.slice SA.a2 na SA.c2) ∧ w'.cell? ⟨pb, 2, none⟩ = some (.slice SB.a2 nb SB.c2) ∧ w'.cell? ⟨pa, 3, none⟩ = some (.slice SA.a3 oa SA.c3) ∧ w'.cell? ⟨pb, 3, none⟩ = some (.slice SB.a3 ob SB.c3)) w') := fun w' hb => by
  have a := hXA.to hXA.lt hb
  have b := hXB.to hXB.lt hb
  rw [hla, hlb, hna, hnb, hoa, hob]
  exact ⟨a.c0, a.c1, b.c1, a.c2, b.c2, a.c3, b.c3⟩
 have hpa := hXA.lt
 have hpb := hXB.lt
 have KS4 : Hid (∀ (w' : World) (g : Nat) (x0 x1 x2 x3 : Value), w1.heap.size ≤ g → (fun w' => w'.cell? ⟨pa, 0, none⟩ = some (.int .i64 A.ins) ∧ w'.cell? ⟨pa, 1, none⟩ = some (.slice SA.a1 la SA.c1) ∧ w'.cell? ⟨pb, 1, none⟩ = some (.slice SB.a1 lb SB.c1) ∧ w'.cell? ⟨pa, 2, none⟩ = some (.slice SA.a2 na SA.c2) ∧ w'.cell? ⟨pb, 2, none⟩ = some (.slice SB.a2 nb SB.c2) ∧ w'.cell? ⟨pa, 3, none⟩ = some (.slice SA.a3 oa SA.c3) ∧ w'.cell? ⟨pb, 3, none⟩ = some (.slice SB.a3 ob SB.c3)) w' → (fun w' => w'.cell? ⟨pa, 0, none⟩ = some (.int .i64 A.ins) ∧ w'.cell? ⟨pa, 1, none⟩ = some (.slice SA.a1 la SA.c1) ∧ w'.cell? ⟨pb, 1, none⟩ = some (.slice SB.a1 lb SB.c1) ∧ w'.cell? ⟨pa, 2, none⟩ = some (.slice SA.a2 na SA.c2) ∧ w'.cell? ⟨pb, 2, none⟩ = some (.slice SB.a2 nb SB.c2) ∧ w'.cell? ⟨pa, 3, none⟩ = some (.slice SA.a3 oa SA.c3) ∧ w'.cell? ⟨pb, 3, none⟩ = some (.slice SB.a3 ob SB.c3)) ((((w'.setCell ⟨g, 0, none⟩ x0).setCell ⟨g, 1, none⟩ x1).setCell ⟨g, 2, none⟩ x2).setCell ⟨g, 3, none⟩ x3)) := fun w' g x0 x1 x2 x3 hg hh => by
  have q : ∀ (b j : Nat), b < w1.heap.size → ((((w'.setCell ⟨g, 0, none⟩ x0).setCell ⟨g, 1, none⟩ x1).setCell ⟨g, 2, none⟩ x2).setCell ⟨g, 3, none⟩ x3).cell? ⟨b, j, none⟩ = w'.cell? ⟨b, j, none⟩ := fun b j hb => by
   have hne : ∀ k : Nat, (⟨g, k, none⟩ : Addr).block ≠ (⟨b, j, none⟩ : Addr).block := fun k e => by have e' : g = b := e; omega
   rw [World.cell?_setCell_far _ _ _ _ (hne 3), World.cell?_setCell_far _ _ _ _ (hne 2), World.cell?_setCell_far _ _ _ _ (hne 1), World.cell?_setCell_far _ _ _ _ (hne 0)]
  exact ⟨(q _ _ hpa).trans hh.1, (q _ _ hpa).trans hh.2.1, (q _ _ hpb).trans hh.2.2.1, (q _ _ hpa).trans hh.2.2.2.1, (q _ _ hpb).trans hh.2.2.2.2.1, (q _ _ hpa).trans hh.2.2.2.2.2.1, (q _ _ hpb).trans hh.2.2.2.2.2.2⟩
 obtain ⟨nl, HNL⟩ : ∃ n, Hid (n = la + lb) := ⟨_, rfl⟩
 obtain ⟨nn, HNN⟩ : ∃ n, Hid (n = na + nb) := ⟨_, rfl⟩
 obtain ⟨no, HNO⟩ : ∃ n, Hid (n = oa + ob) := ⟨_, rfl⟩
 have hns : nl ≤ 200000 ∧ nn ≤ 200000 ∧ no ≤ 200000 := by rw [HNL.out, HNN.out, HNO.out]; omega
 have e1 : IntKind.i64.wrap ((la : Int) + (lb : Int)) = (nl : Int) := by rw [wrapI _ (by omega) (by omega), HNL.out]; omega
 have e2 : IntKind.i64.wrap ((na : Int) + (nb : Int)) = (nn : Int) := by rw [wrapI _ (by omega) (by omega), HNN.out]; omega
 have e3 : IntKind.i64.wrap ((oa : Int) + (ob : Int)) = (no : Int) := by rw [wrapI _ (by omega) (by omega), HNO.out]; omega
 obtain ⟨il, hi, hz, hs, hb⟩ := info_lat
 have HIl := hidden hi
 have HZl := hidden hz
 have HSl := hidden hs
 have HYl := hidden hb
 clear hi hz hs hb
 obtain ⟨ia, hi, hz, hs, hb⟩ := info_two
 have HIa := hidden hi
 have HZa := hidden hz
 have HSa := hidden hs
 have HYa := hidden hb
 clear hi hz hs hb
 obtain ⟨io, hi, hz, hs, hb⟩ := info_int
 have HIo := hidden hi
 have HZo := hidden hz
 have HSo := hidden hs
 have HYo := hidden hb
 clear hi hz hs hb
 clear hla hlb hna hnb hoa hob hXA hXB HQ
 conv => arg 2; whnf
 refine region_midJ (fun a' w' => ∃ gb s6 s7 s8 s9 s10 s11 s12 s13 s14 s15 s16 s17 s18 s19 s20 s21 s22 s23 s24 s25 s26 s27 s28 s29 s30 s31 s32 s33 s34 s35 s36 s37 s38 s39 s40 s41 s42 s43 s44 s45 s46, a' = ⟨#[.pointer (some ⟨pa, 0, none⟩), .pointer (some ⟨pb, 0, none⟩), undef, undef, .pointer (some ⟨rb, 0, none⟩), .pointer (some ⟨gb, 0, none⟩), s6, s7, s8, s9, s10, s11, s12, s13, s14, s15, s16, s17, s18, s19, s20, s21, s22, s23, s24, s25, s26, s27, s28, s29, s30, s31, s32, s33, s34, s35, s36, s37, s38, s39, s40, s41, s42, s43, s44, s45, s46, undef, undef, undef, undef, undef, undef, undef, undef, undef, undef, undef, undef, undef, undef, undef, undef, undef, undef, undef, undef, undef, undef, undef, undef, undef, undef], []⟩ ∧ MidJ w1 gb A.ins w') ?_ (fun a' w' h => by
  obtain ⟨gb, s6, s7, s8, s9, s10, s11, s12, s13, s14, s15, s16, s17, s18, s19, s20, s21, s22, s23, s24, s25, s26, s27, s28, s29, s30, s31, s32, s33, s34, s35, s36, s37, s38, s39, s40, s41, s42, s43, s44, s45, s46, rfl, hm⟩ := h
  exact HQ'.out gb s6 s7 s8 s9 s10 s11 s12 s13 s14 s15 s16 s17 s18 s19 s20 s21 s22 s23 s24 s25 s26 s27 s28 s29 s30 s31 s32 s33 s34 s35 s36 s37 s38 s39 s40 s41 s42 s43 s44 s45 s46 w' hm)
 refine wp_region_noPanic ?_
 refine wp_region_held_drew (S := (fun w' => w'.cell? ⟨pa, 0, none⟩ = some (.int .i64 A.ins) ∧ w'.cell? ⟨pa, 1, none⟩ = some (.slice SA.a1 la SA.c1) ∧ w'.cell? ⟨pb, 1, none⟩ = some (.slice SB.a1 lb SB.c1) ∧ w'.cell? ⟨pa, 2, none⟩ = some (.slice SA.a2 na SA.c2) ∧ w'.cell? ⟨pb, 2, none⟩ = some (.slice SB.a2 nb SB.c2) ∧ w'.cell? ⟨pa, 3, none⟩ = some (.slice SA.a3 oa SA.c3) ∧ w'.cell? ⟨pb, 3, none⟩ = some (.slice SB.a3 ob SB.c3))) (by kernel_rfl) (by first | assumption | exact K1.out _ (Below.drew (Below.refl _ _)) | exact K1.out _ (Below.refl _ _)) (fun hHeld => ?_)
 refine tk 0 ?_
 refine tk 1 ?_
 refine tk 2 ?_
 refine tk 3 ?_
 refine tk 4 ?_
 refine tk 5 ?_
 refine tk 6 ?_
 refine tk 7 ?_
 refine tk 8 ?_
 refine tk 9 ?_
 refine tk 10 ?_
 refine tk 11 ?_
 refine tk 12 ?_
 refine tk 13 ?_
 refine tk 14 ?_
 refine tk 16 ?_
 refine tk 17 ?_
 refine tk 18 ?_
 refine tk 19 ?_
 refine tk 20 ?_
 refine tk 21 ?_
 refine tk 22 ?_
 refine tk 23 ?_
 refine tk 24 ?_
 refine tk 25 ?_
 refine tk 26 ?_
 refine tk 28 ?_
 refine tk 29 ?_
 refine tk 30 ?_
 refine tk 31 ?_
 refine tk 32 ?_
 refine tk 33 ?_
 refine tk 34 ?_
 refine tk 35 ?_
 refine tk 36 ?_
 refine tk 37 ?_
 refine tk 38 ?_
 refine wp_four (fuel := 2) (i1 := 15) (i2 := 27) (i3 := 39) (i4 := 41) (fun x1 x2 x3 x4 => ⟨#[.pointer (some ⟨pa, 0, none⟩), .pointer (some ⟨pb, 0, none⟩), undef, undef, .pointer (some ⟨rb, 0, none⟩), x4, .pointer (some ⟨pa, 0, none⟩), .pointer (some ⟨pa, 0, none⟩), .pointer (some ⟨pa, 0, none⟩), .int .i64 A.ins, .pointer (some ⟨pa, 0, none⟩), .pointer (some ⟨pa, 0, none⟩), .pointer (some ⟨pa, 1, none⟩), .slice SA.a1 la SA.c1, .int .i64 (la : Int), .pointer (some ⟨pb, 0, none⟩), .pointer (some ⟨pb, 0, none⟩), .pointer (some ⟨pb, 1, none⟩), .slice SB.a1 lb SB.c1, .int .i64 (lb : Int), .int .i64 (nl : Int), x1, .pointer (some ⟨pa, 0, none⟩), .pointer (some ⟨pa, 0, none⟩), .pointer (some ⟨pa, 2, none⟩), .slice SA.a2 na SA.c2, .int .i64 (na : Int), .pointer (some ⟨pb, 0, none⟩), .pointer (some ⟨pb, 0, none⟩), .pointer (some ⟨pb, 2, none⟩), .slice SB.a2 nb SB.c2, .int .i64 (nb : Int), .int .i64 (nn : Int), x2, .pointer (some ⟨pa, 0, none⟩), .pointer (some ⟨pa, 0, none⟩), .pointer (some ⟨pa, 3, none⟩), .slice SA.a3 oa SA.c3, .int .i64 (oa : Int), .pointer (some ⟨pb, 0, none⟩), .pointer (some ⟨pb, 0, none⟩), .pointer (some ⟨pb, 3, none⟩), .slice SB.a3 ob SB.c3, .int .i64 (ob : Int), .int .i64 (no : Int), x3, undef, undef, undef, undef, undef, undef, undef, undef, undef, undef, undef, undef, undef, undef, undef, undef, undef, undef, undef, undef, undef, undef, undef, undef, undef, undef, undef], []⟩) (fun b1 b2 b3 b4 => #[true, true, true, true, true, true, true, true, true, true, true, true, true, true, true, b1, true, true, true, true, true, true, true, true, true, true, true, b2, true, true, true, true, true, true, true, true, true, true, true, b3, false, b4, false]) (fun w => Below w1.heap.size w1 w) (fun k w => w.ownsRow w1.heap.size 55 2 (.slice (some ⟨k, 0, none⟩) 0 nl) 0 []) (fun k w => w.ownsRow w1.heap.size 33 2 (.slice (some ⟨k, 0, none⟩) 0 nn) 0 []) (fun k w => w.ownsRow w1.heap.size 3 1 (.slice (some ⟨k, 0, none⟩) 0 no) 0 []) (fun k w => w.heap[k]? = some (.cells #[.int .i64 0, .slice none 0 0, .slice none 0 0, .slice none 0 0] 30 (0, 0)) ∧ w1.heap.size ≤ k) (fun k => .slice (some ⟨k, 0, none⟩) 0 nl) (fun k => .slice (some ⟨k, 0, none⟩) 0 nn) (fun k => .slice (some ⟨k, 0, none⟩) 0 no) (fun k => .pointer (some ⟨k, 0, none⟩)) rfl rfl rfl rfl undef undef undef undef (by kernel_rfl) ?ha (Below.drew (Below.refl w1.heap.size w1)) (fun w h => K1.out w h)
  (fun x1 x2 x3 x4 v => by first | rfl | kernel_rfl) (fun x1 x2 x3 x4 v => by first | rfl | kernel_rfl) (fun x1 x2 x3 x4 v => by first | rfl | kernel_rfl) (fun x1 x2 x3 x4 v => by first | rfl | kernel_rfl)
  (fun _ _ _ => by first | rfl | kernel_rfl) (fun _ _ _ => by first | rfl | kernel_rfl) (fun _ _ _ => by first | rfl | kernel_rfl) (fun _ _ _ => by first | rfl | kernel_rfl)
  (by kernel_rfl) (by kernel_rfl) (by kernel_rfl) (by kernel_rfl) (by kernel_rfl) (by kernel_rfl) (by kernel_rfl) (by kernel_rfl) (by kernel_rfl) (by kernel_rfl) (by kernel_rfl) (by kernel_rfl) (by kernel_rfl) (by kernel_rfl)
  ?H1 ?H2 ?H3 ?H4 (fun k w w' h _ hb => own_below h hb) (fun k w w' h _ hb => own_below h hb) (fun k w w' h _ hb => own_below h hb) (fun k w w' h hk hb => ⟨(hb.block k hk).trans h.1, h.2⟩) ?s1111 ?s1110
 case ha =>
  rfl
 case H1 =>
  exact (fun x1 x2 x3 x4 w K hI hK => by
   refine step_make_own rfl (.const (.int .i64 0)) (.tmp 20) 27 rfl w1.heap.size 55 il _ 2 Try.underlying27 HIl.out HZl.out HSl.out .i64 .i64 (nl : Int) nl rfl rfl rfl (by rw [HYl.out]; omega) (by simp only [maxLen]; omega) (Below.size (w := w1) hI) ?_
   intro w' hown hgrow
   have hb := none_below hgrow
   exact hK w' (Below.trans hI (hb.mono (Below.size (w := w1) hI))) hown hb (hown.lt _ rfl).2)
 case H2 =>
  exact (fun x1 x2 x3 x4 w K hI hK => by
   refine step_make_own rfl (.const (.int .i64 0)) (.tmp 32) 28 rfl w1.heap.size 33 ia _ 2 Try.underlying28 HIa.out HZa.out HSa.out .i64 .i64 (nn : Int) nn rfl rfl rfl (by rw [HYa.out]; omega) (by simp only [maxLen]; omega) (Below.size (w := w1) hI) ?_
   intro w' hown hgrow
   have hb := none_below hgrow
   exact hK w' (Below.trans hI (hb.mono (Below.size (w := w1) hI))) hown hb (hown.lt _ rfl).2)
 case H3 =>
  exact (fun x1 x2 x3 x4 w K hI hK => by
   refine step_make_own rfl (.const (.int .i64 0)) (.tmp 44) 26 rfl w1.heap.size 3 io _ 1 Try.underlying26 HIo.out HZo.out HSo.out .i64 .i64 (no : Int) no rfl rfl rfl (by rw [HYo.out]; omega) (by simp only [maxLen]; omega) (Below.size (w := w1) hI) ?_
   intro w' hown hgrow
   have hb := none_below hgrow
   exact hK w' (Below.trans hI (hb.mono (Below.size (w := w1) hI))) hown hb (hown.lt _ rfl).2)
 case H4 =>
  exact (fun x1 x2 x3 x4 w K hI hK0 => by
   have hK := hidden hK0
   clear hK0
   (try dsimp only)
   (try simp only [gA, gB, gC])
   go_simp
   generalize hWg : World.alloc _ (Obj.cells #[Value.int IntKind.i64 0, Value.slice none 0 0, Value.slice none 0 0, Value.slice none 0 0] _) = wg
   have hboxg : wg.heap[w.heap.size]? = some (.cells #[.int .i64 0, .slice none 0 0, .slice none 0 0, .slice none 0 0] 30 (0, 0)) := by rw [← hWg]; exact heap_new _ _
   have hbg : Below w.heap.size w wg := by rw [← hWg]; exact (Below.refl _ _).alloc (Nat.le_refl _) _
   have hlg : w.heap.size < wg.heap.size := (Array.getElem?_eq_some_iff.1 hboxg).1
   have hBg : Below w1.heap.size w1 wg := Below.trans hI (hbg.mono (Below.size (w := w1) hI))
   have hgeg : w1.heap.size ≤ w.heap.size := Below.size (w := w1) hI
   clear hWg
   exact hK.out wg hBg ⟨hboxg, hgeg⟩ hbg hlg)
 case s1111 =>
  intro k1 k2 k3 k4 w hBg h1 h2 h3 h4 n12 n13 n14 n23 n24 n34
  have hHe := K1.out _ hBg
  dsimp only at hBg h1 h2 h3 h4 hHe ⊢
  obtain ⟨HOl, l1⟩ := h1
  obtain ⟨HOa, l2⟩ := h2
  obtain ⟨HOo, l3⟩ := h3
  obtain ⟨⟨HBX, hgeg⟩, l4⟩ := h4
  refine tk 40 ?_
  refine wpAnyH_ready (rs := [42]) (by kernel_rfl) (by simp) ?_
  refine AllReadyH.cons (o := _) rfl (fun K hK => ?_) AllReadyH.nil
  have hc0 := cell_of_row _ _ 0 _ _ (0, 0) HBX
  have hc1 := cell_of_row _ _ 1 _ _ (0, 0) HBX
  have hc2 := cell_of_row _ _ 2 _ _ (0, 0) HBX
  have hc3 := cell_of_row _ _ 3 _ _ (0, 0) HBX
  have hz0 := frozen_of_row _ _ 0 _ _ HBX
  have hz1 := frozen_of_row _ _ 1 _ _ HBX
  have hz2 := frozen_of_row _ _ 2 _ _ HBX
  have hz3 := frozen_of_row _ _ 3 _ _ HBX
  simp at hc0 hc1 hc2 hc3
  (try simp only [gA, gB, gC])
  go_simp
  refine hK.out _ _ (by first | assumption | exact KS4.out _ _ _ _ _ _ hgeg (K1.out _ hBg)) (fun hHelds => ?_)
  clear hK K
  (try simp only [Act.put]); (try simp only [sA]); (try simp only [sB, sC])
  refine wpAnyH_done (by kernel_rfl) ?_ _
  refine NoPanic.normal ?_
  refine ⟨rfl, _, _, _, _, _, _, _, _, _, _, _, _, _, _, _, _, _, _, _, _, _, _, _, _, _, _, _, _, _, _, _, _, _, _, _, _, _, _, _, _, _, _, rfl, ?_⟩
  exact tk_init HBX HOl HOa HOo (by omega) (by omega) (by omega) (by omega) (by omega) (by omega) hgeg hBg
 case s1110 =>
  intro k1 k2 k3 x4 w hI h1 h2 h3 n12 n13 n23
  have hHe := K1.out _ hI
  dsimp only at hI h1 h2 h3 hHe ⊢
  obtain ⟨HOl', l1⟩ := h1
  obtain ⟨HOa', l2⟩ := h2
  obtain ⟨HOo', l3⟩ := h3
  refine tk 40 ?_
  refine wpAnyH_ready (rs := [41]) (by kernel_rfl) (by simp) ?_
  refine AllReadyH.cons (o := _) rfl (fun K hK => ?_) AllReadyH.nil
  (try dsimp only)
  (try simp only [gA, gB, gC])
  go_simp
  generalize hWg : World.alloc _ (Obj.cells #[Value.int IntKind.i64 0, Value.slice none 0 0, Value.slice none 0 0, Value.slice none 0 0] _) = wg
  have hboxg : wg.heap[w.heap.size]? = some (.cells #[.int .i64 0, .slice none 0 0, .slice none 0 0, .slice none 0 0] 30 (0, 0)) := by rw [← hWg]; exact heap_new _ _
  have hbg : Below w.heap.size w wg := by rw [← hWg]; exact (Below.refl _ _).alloc (Nat.le_refl _) _
  have hlg : w.heap.size < wg.heap.size := (Array.getElem?_eq_some_iff.1 hboxg).1
  have hBg : Below w1.heap.size w1 wg := Below.trans hI (hbg.mono (Below.size (w := w1) hI))
  have hgeg : w1.heap.size ≤ w.heap.size := Below.size (w := w1) hI
  clear hWg
  refine hK.out _ _ (by first | assumption | exact K1.out _ hBg) (fun hHeldg => ?_)
  clear hK K
  (try simp only [Act.put]); (try simp only [sA]); (try simp only [sB, sC])
  refine wpAnyH_ready (rs := [42]) (by kernel_rfl) (by simp) ?_
  refine AllReadyH.cons (o := _) rfl (fun K hK => ?_) AllReadyH.nil
  have HOl := own_below HOl' hbg
  have HOa := own_below HOa' hbg
  have HOo := own_below HOo' hbg
  have HBX := hboxg
  have hc0 := cell_of_row _ _ 0 _ _ (0, 0) HBX
  have hc1 := cell_of_row _ _ 1 _ _ (0, 0) HBX
  have hc2 := cell_of_row _ _ 2 _ _ (0, 0) HBX
  have hc3 := cell_of_row _ _ 3 _ _ (0, 0) HBX
  have hz0 := frozen_of_row _ _ 0 _ _ HBX
  have hz1 := frozen_of_row _ _ 1 _ _ HBX
  have hz2 := frozen_of_row _ _ 2 _ _ HBX
  have hz3 := frozen_of_row _ _ 3 _ _ HBX
  simp at hc0 hc1 hc2 hc3
  (try simp only [gA, gB, gC])
  go_simp
  refine hK.out _ _ (by first | assumption | exact KS4.out _ _ _ _ _ _ hgeg (K1.out _ hBg)) (fun hHelds => ?_)
  clear hK K
  (try simp only [Act.put]); (try simp only [sA]); (try simp only [sB, sC])
  refine wpAnyH_done (by kernel_rfl) ?_ _
  refine NoPanic.normal ?_
  refine ⟨rfl, _, _, _, _, _, _, _, _, _, _, _, _, _, _, _, _, _, _, _, _, _, _, _, _, _, _, _, _, _, _, _, _, _, _, _, _, _, _, _, _, _, _, rfl, ?_⟩
  exact tk_init HBX HOl HOa HOo (by omega) (by omega) (by omega) (by omega) (by omega) (by omega) hgeg hBg
end Go.Proofs.Ytefjicdhccfieaa
