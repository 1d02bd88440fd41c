import Derived.Test.YtefjicdhccfieaaK01
import Derived.Test.YtefjicdhccfieaaK30
import Derived.Deep.CutBlock
set_option maxRecDepth 100000
set_option maxHeartbeats 16000000
namespace Go.Proofs.Ytefjicdhccfieaa
open Go.RowKit
def seqAt (n : Nat) : Code → Option Code
 | .seq a b => match a with
  | .region m _ _ => if m = n then some (.seq a b) else seqAt n b
  | a => match seqAt n a with
   | some c => some c
   | none => seqAt n b
 | .block _ c => seqAt n c
 | .loop c => seqAt n c
 | .scope c => seqAt n c
 | .cond _ a b => match seqAt n a with
  | some c => some c
  | none => seqAt n b
 | _ => none
theorem wakeSwap (w : World) (cb lb ci ln lcap a0 a1 l : Nat) (q0 : w.cell? ⟨cb, ci * 4, none⟩ = some (.slice (some ⟨lb, 0, none⟩) ln lcap)) (c0 : w.cell? ⟨lb, 0, none⟩ = some (.int .i32 (a0 : Int))) (c1 : w.cell? ⟨lb, 1, none⟩ = some (.int .i32 (a1 : Int))) (hz : ∀ j, w.frozen? ⟨lb, j, none⟩ = false) (hne : lb ≠ cb) (hln : 1 < ln) (K' : Act → World → Prop) (Q0 : Exit → Act → World → Prop) (x0 x2 x3 x4 x5 x6 x7 x8 x9 x10 x12 x13 x14 x15 x16 x17 x18 x19 x20 x21 x22 x23 x24 x25 x26 x27 x28 x29 x30 x31 x32 x33 x34 x35 x36 x37 x38 x39 x40 x41 x42 x43 x44 x45 x46 x47 x48 x49 x50 x51 x52 x53 x54 x55 x56 x57 x58 x59 x60 x61 x62 x63 x64 x65 x66 x67 x68 x69 x70 x71 x72 x73 x74 x75 x76 x77 x78 x79 x80 x81 x82 x83 x84 x85 x86 x87 x88 x89 x90 x91 x92 x93 x94 x95 x96 x97 x98 x99 x100 x101 x102 x103 x104 x105 x106 x107 x108 x109 x110 x111 x112 x113 x114 x115 x116 x117 x118 x119 x120 x121 x122 x123 x124 x125 x126 x127 x128 x129 x130 x131 x132 x133 x134 x135 x136 x137 x138 x139 x140 x141 x142 x143 x144 x145 x146 x147 x148 x149 x150 x151 x152 x153 x154 x155 x156 x157 x158 x159 x160 x161 x162 x163 x164 x165 x166 x167 x168 x169 x170 x171 x172 x173 x174 x175 x176 x177 x178 x179 x180 x181 x182 x183 x184 x185 x186 x187 x188 x189 x190 x191 x192 x193 x194 x195 x196 x197 x198 x199 x200 x201 x202 x203 x204 x205 x206 x207 x208 x209 x210 x211 x212 x213 x214 x215 x216 x217 : Value)
  (HK : Hid (∀ (w' : World) (s58 s59 s60 s61 s62 s63 s64 s65 s66 s67 s68 s69 s70 s71 s72 s73 s74 s75 s76 s77 s78 s79 s80 s81 s82 : Value), ((a0 ≠ l ∧ w' = w) ∨ (a0 = l ∧ ∃ wd, Below w.heap.size w wd ∧ w' = (wd.setCell ⟨lb, 0, none⟩ (.int .i32 (a1 : Int))).setCell ⟨lb, 1, none⟩ (.int .i32 (l : Int)))) → K' ⟨#[x0, .int .i32 (l : Int), x2, x3, x4, x5, x6, x7, x8, x9, x10, .pointer (some ⟨cb, ci * 4, none⟩), x12, x13, x14, x15, x16, x17, x18, x19, x20, x21, x22, x23, x24, x25, x26, x27, x28, x29, x30, x31, x32, x33, x34, x35, x36, x37, x38, x39, x40, x41, x42, x43, x44, x45, x46, x47, x48, x49, x50, x51, x52, x53, x54, x55, x56, x57, s58, s59, s60, s61, s62, s63, s64, s65, s66, s67, s68, s69, s70, s71, s72, s73, s74, s75, s76, s77, s78, s79, s80, s81, s82, x83, x84, x85, x86, x87, x88, x89, x90, x91, x92, x93, x94, x95, x96, x97, x98, x99, x100, x101, x102, x103, x104, x105, x106, x107, x108, x109, x110, x111, x112, x113, x114, x115, x116, x117, x118, x119, x120, x121, x122, x123, x124, x125, x126, x127, x128, x129, x130, x131, x132, x133, x134, x135, x136, x137, x138, x139, x140, x141, x142, x143, x144, x145, x146, x147, x148, x149, x150, x151, x152, x153, x154, x155, x156, x157, x158, x159, x160, x161, x162, x163, x164, x165, x166, x167, x168, x169, x170, x171, x172, x173, x174, x175, x176, x177, x178, x179, x180, x181, x182, x183, x184, x185, x186, x187, x188, x189, x190, x191, x192, x193, x194, x195, x196, x197, x198, x199, x200, x201, x202, x203, x204, x205, x206, x207, x208, x209, x210, x211, x212, x213, x214, x215, x216, x217], []⟩ w'))
  :
  Code.wp Try.prog ((Try.f72.body.bind (seqAt 9)).getD .skip) (Exit.then K' Q0) ⟨#[x0, .int .i32 (l : Int), x2, x3, x4, x5, x6, x7, x8, x9, x10, .pointer (some ⟨cb, ci * 4, none⟩), x12, x13, x14, x15, x16, x17, x18, x19, x20, x21, x22, x23, x24, x25, x26, x27, x28, x29, x30, x31, x32, x33, x34, x35, x36, x37, x38, x39, x40, x41, x42, x43, x44, x45, x46, x47, x48, x49, x50, x51, x52, x53, x54, x55, x56, x57, x58, x59, x60, x61, x62, x63, x64, x65, x66, x67, x68, x69, x70, x71, x72, x73, x74, x75, x76, x77, x78, x79, x80, x81, x82, x83, x84, x85, x86, x87, x88, x89, x90, x91, x92, x93, x94, x95, x96, x97, x98, x99, x100, x101, x102, x103, x104, x105, x106, x107, x108, x109, x110, x111, x112, x113, x114, x115, x116, x117, x118, x119, x120, x121, x122, x123, x124, x125, x126, x127, x128, x129, x130, x131, x132, x133, x134, x135, x136, x137, x138, x139, x140, x141, x142, x143, x144, x145, x146, x147, x148, x149, x150, x151, x152, x153, x154, x155, x156, x157, x158, x159, x160, x161, x162, x163, x164, x165, x166, x167, x168, x169, x170, x171, x172, x173, x174, x175, x176, x177, x178, x179, x180, x181, x182, x183, x184, x185, x186, x187, x188, x189, x190, x191, x192, x193, x194, x195, x196, x197, x198, x199, x200, x201, x202, x203, x204, x205, x206, x207, x208, x209, x210, x211, x212, x213, x214, x215, x216, x217], []⟩ w := by
 conv => arg 2; whnf
 have hlnI : (1 : Int) < (ln : Int) := by omega
 have hlnN : 0 < ln := by omega
 by_cases hal : a0 = l
 ·subst hal
  have KB : Hid ((fun w' => w'.cell? ⟨cb, ci * 4, none⟩ = some (.slice (some ⟨lb, 0, none⟩) ln lcap)) w) := q0
  have KS : Hid (∀ (w' : World) (xv : Value) (j : Nat), (fun w' => w'.cell? ⟨cb, ci * 4, none⟩ = some (.slice (some ⟨lb, 0, none⟩) ln lcap)) w' → (fun w' => w'.cell? ⟨cb, ci * 4, none⟩ = some (.slice (some ⟨lb, 0, none⟩) ln lcap)) (w'.setCell ⟨lb, j, none⟩ xv)) := fun w' xv j hh => (World.cell?_setCell_other (h := fun e => hne (by cases e; rfl)) ..).trans hh
  have z0 := hz 0
  have z1 : (w.setCell ⟨lb, 0, none⟩ (.int .i32 (a1 : Int))).frozen? ⟨lb, 1, none⟩ = false := (World.frozen?_setCell _ _ _ _).trans (hz 1)
  have c2 : (w.setCell ⟨lb, 0, none⟩ (.int .i32 (a1 : Int))).cell? ⟨lb, 1, none⟩ = some (.int .i32 (a1 : Int)) := (World.cell?_setCell_other (h := fun e => by cases e) ..).trans c1
  clear hz
  go_upto_region 10 with fail
  refine wp_region_noPanic ?_
  refine wp_region_held_drew (S := (fun w' => w'.cell? ⟨cb, ci * 4, none⟩ = some (.slice (some ⟨lb, 0, none⟩) ln lcap))) (by kernel_rfl) (by first | assumption | exact KB.out | exact KS.out _ _ _ (by first | assumption | exact KB.out)) (fun hHeld => ?_)
  refine tk 0 ?_
  refine tk 1 ?_
  refine tk 2 ?_
  refine tk 3 ?_
  refine tk 4 ?_
  refine tk 5 ?_
  refine tk 6 ?_
  refine tk 7 ?_
  refine tk 8 ?_
  refine tk 9 ?_
  refine tk 10 ?_
  refine tk 11 ?_
  refine tk 12 ?_
  refine tk 14 ?_
  refine wpAnyH_ready (rs := [13]) (by kernel_rfl) (by simp) ?_
  refine AllReadyH.cons (o := _) rfl (fun K hK => ?_) AllReadyH.nil
  (try simp only [gA, gB, gC])
  go_simp
  refine hK.out _ _ (by first | assumption | exact KB.out | exact KS.out _ _ _ (by first | assumption | exact KB.out)) (fun hHeld13 => ?_)
  clear hK K
  (try simp only [Act.put]); (try simp only [sA]); (try simp only [sB, sC])
  refine tk 15 ?_
  refine wpAnyH_ready (rs := [16]) (by kernel_rfl) (by simp) ?_
  refine AllReadyH.cons (o := _) rfl (fun K hK => ?_) AllReadyH.nil
  (try simp only [gA, gB, gC])
  go_simp
  refine hK.out _ _ (by first | assumption | exact KB.out | exact KS.out _ _ _ (by first | assumption | exact KB.out)) (fun hHeld16 => ?_)
  clear hK K
  (try simp only [Act.put]); (try simp only [sA]); (try simp only [sB, sC])
  refine tk 17 ?_
  refine wpAnyH_ready (rs := [18]) (by kernel_rfl) (by simp) ?_
  refine AllReadyH.cons (o := _) rfl (fun K hK => ?_) AllReadyH.nil
  (try simp only [gA, gB, gC])
  go_simp
  refine hK.out _ _ (by first | assumption | exact KB.out | exact KS.out _ _ _ (by first | assumption | exact KB.out)) (fun hHeld18 => ?_)
  clear hK K
  (try simp only [Act.put]); (try simp only [sA]); (try simp only [sB, sC])
  refine wpAnyH_done (by kernel_rfl) ?_ _
  refine NoPanic.normal ?_
  clear q0 c0 c1 c2 z0 z1 KB KS
  go_wp2
  exact HK.out _ _ _ _ _ _ _ _ _ _ _ _ _ _ _ _ _ _ _ _ _ _ _ _ _ _ (.inr ⟨(by first | trivial | rfl), _, by first | exact Below.drew (Below.refl _ _) | exact Below.refl _ _ | exact Below.drew (Below.drew (Below.refl _ _)), rfl⟩)
 ·have hI : ¬ ((a0 : Int) = (l : Int)) := by omega
  clear hz
  go_wp2
  exact HK.out _ _ _ _ _ _ _ _ _ _ _ _ _ _ _ _ _ _ _ _ _ _ _ _ _ _ (.inl ⟨hal, rfl⟩)
end Go.Proofs.Ytefjicdhccfieaa

set_option maxRecDepth 100000
set_option maxHeartbeats 16000000
namespace Go.Proofs.Ytefjicdhccfieaa
open Go.RowKit
structure WnR (st st' : St) : Prop where
 V : st'.V = st.V
 lk0 : st'.lk0 = st.lk0
 lk1 : st'.lk1 = st.lk1
 done : st'.done = st.done
 round : st'.round = st.round
 steps : st'.steps = st.steps
 used : st'.used = st.used
 rd : st'.cls.map BC.round = st.cls.map BC.round
 tr : ∃ ext, st'.trail = st.trail ++ ext
theorem WnR.refl (st : St) : WnR st st := ⟨rfl, rfl, rfl, rfl, rfl, rfl, rfl, rfl, [], by simp⟩
theorem WnR.trans {a b c : St} (h : WnR a b) (k : WnR b c) : WnR a c := by
 refine ⟨k.V.trans h.V, k.lk0.trans h.lk0, k.lk1.trans h.lk1, k.done.trans h.done, k.round.trans h.round, k.steps.trans h.steps, k.used.trans h.used, k.rd.trans h.rd, ?_⟩
 obtain ⟨e, he⟩ := h.tr
 obtain ⟨f, hf⟩ := k.tr
 exact ⟨e ++ f, by rw [hf, he, List.append_assoc]⟩
theorem map_mod (cls : List BC) (i : Nat) (f : BC → BC) (hf : ∀ c, (f c).round = c.round) : (cls.modify i f).map BC.round = cls.map BC.round := by
 apply List.ext_getElem?
 intro j
 rw [List.getElem?_map, List.getElem?_map, List.getElem?_modify]
 cases cls[j]? with
 | none => rfl
 | some c => by_cases e : i = j <;> simp [e, hf]
theorem WnR.list (st : St) (i : Nat) (ls : List Nat) : WnR st (st.listAt i ls) := ⟨rfl, rfl, rfl, rfl, rfl, rfl, rfl, map_mod _ _ _ (fun _ => rfl), [], by simp [St.listAt]⟩
theorem WnR.next (st : St) (i k : Nat) : WnR st (st.nextAt i k) := ⟨rfl, rfl, rfl, rfl, rfl, rfl, rfl, map_mod _ _ _ (fun _ => rfl), [], by simp [St.nextAt]⟩
theorem WnR.add (st : St) (t l : Nat) (e : Nat × Nat) : WnR st (st.addW t l e) := ⟨rfl, rfl, rfl, rfl, rfl, rfl, rfl, rfl, [], by simp [St.addW]⟩
theorem WnR.put (st : St) (t l : Nat) (es : List (Nat × Nat)) : WnR st (st.putW t l es) := ⟨rfl, rfl, rfl, rfl, rfl, rfl, rfl, rfl, [], by simp [St.putW]⟩
theorem WnR.hold (st : St) (l : Nat) (r : Int) : WnR st (st.hold l r) := ⟨rfl, rfl, rfl, rfl, rfl, rfl, rfl, rfl, [l], rfl⟩
structure WkM (B : Nat) (w : World) (bb : Nat) (st : St) (sl : Site → Slot) (wb ci o : Nat) : Prop where
 R : Rows' B w bb (fields sl st) sl
 L : Link sl st
 box : w.heap[wb]? = some (.cells #[.int .i32 (ci : Int), .int .i32 (o : Int)] 118 (0, 0))
 far : ∀ s, (sl s).v.ownBlock ≠ some wb
 ne : wb ≠ bb
 base : B ≤ wb
theorem WkM.c0 {B : Nat} {w : World} {bb : Nat} {st : St} {sl : Site → Slot} {wb ci o : Nat} (h : WkM B w bb st sl wb ci o) : w.cell? ⟨wb, 0, none⟩ = some (.int .i32 (ci : Int)) := by simp [World.cell?, h.box]
theorem WkM.c1 {B : Nat} {w : World} {bb : Nat} {st : St} {sl : Site → Slot} {wb ci o : Nat} (h : WkM B w bb st sl wb ci o) : w.cell? ⟨wb, 1, none⟩ = some (.int .i32 (o : Int)) := by simp [World.cell?, h.box]
theorem WkM.fz {B : Nat} {w : World} {bb : Nat} {st : St} {sl : Site → Slot} {wb ci o : Nat} (h : WkM B w bb st sl wb ci o) (j : Nat) : w.frozen? ⟨wb, j, none⟩ = false := by simp [World.frozen?, h.box]
theorem WkM.rest {B : Nat} {w w' : World} {bb : Nat} {st : St} {sl : Site → Slot} {wb ci o : Nat} (h : WkM B w bb st sl wb ci o) (hb : Below w.heap.size w w') : WkM B w' bb st sl wb ci o :=
 ⟨h.R.rest hb, h.L, by rw [hb.block wb (Array.getElem?_eq_some_iff.1 h.box).1]; exact h.box, h.far, h.ne, h.base⟩
theorem WkM.other {B : Nat} {w : World} {bb : Nat} {st : St} {sl : Site → Slot} {wb ci o : Nat} (h : WkM B w bb st sl wb ci o) (o' : Nat) : WkM B (w.setCell ⟨wb, 1, none⟩ (.int .i32 (o' : Int))) bb st sl wb ci o' ∧ Below B w (w.setCell ⟨wb, 1, none⟩ (.int .i32 (o' : Int))) := by
 have hg := gset w wb 1 (.int .i32 (o' : Int))
 refine ⟨⟨⟨fun s => (h.R.rows s).kept hg (.inr (h.far s)), h.R.sep, h.R.nb, ?_, h.R.base⟩, h.L, ?_, h.far, h.ne, h.base⟩, setTo (Below.refl _ _) h.base h.R.size⟩
 ·rw [hg.block bb h.R.lt (fun e => h.ne (Option.some.inj e).symm)]; exact h.R.board
 ·have := heap_setCell_same w wb 1 _ _ (.int .i32 (o' : Int)) h.box
  simpa using this
theorem WkM.turn {B : Nat} {w w' : World} {bb : Nat} {st st' : St} {sl sl' : Site → Slot} {wb ci o : Nat} (h : WkM B w bb st sl wb ci o) (s : Site) (hg : w.grownBy w' (sl s).v.ownBlock) (R : Rows' B w' bb (fields sl' st') sl') (L : Link sl' st') (hv : ∀ s', (sl' s').v = (sl s').v) : WkM B w' bb st' sl' wb ci o :=
 ⟨R, L, by rw [hg.block wb (Array.getElem?_eq_some_iff.1 h.box).1 (fun e => h.far s e.symm)]; exact h.box, fun s' => by rw [hv s']; exact h.far s', h.ne, h.base⟩
theorem WkM.clause {B : Nat} {w : World} {bb : Nat} {st : St} {sl : Site → Slot} {wb ci o : Nat} (h : WkM B w bb st sl wb ci o) {c : BC} (hc : st.cls[ci]? = some c) (h0 : 0 < c.l.length) : ∃ cb ccap lb lcap, (sl .clauses).v = .slice (some ⟨cb, 0, none⟩) (sl .clauses).n ccap ∧ (sl (.lits ci)).v = .slice (some ⟨lb, 0, none⟩) (sl (.lits ci)).n lcap ∧ B ≤ cb ∧ B ≤ lb ∧ lb ≠ cb ∧ lb ≠ wb ∧ lb ≠ bb ∧ cb ≠ wb ∧ w.cell? ⟨bb, 0, none⟩ = some (.slice (some ⟨cb, 0, none⟩) st.cls.length ccap) ∧ w.cell? ⟨cb, ci * 4, none⟩ = some (.slice (some ⟨lb, 0, none⟩) c.l.length lcap) ∧ w.cell? ⟨cb, ci * 4 + 1, none⟩ = some (.int .i64 (c.next : Int)) ∧ w.cell? ⟨cb, ci * 4 + 2, none⟩ = some (.int .i64 (c.tier : Int)) ∧ (∀ j, w.frozen? ⟨lb, j, none⟩ = false) ∧ ∀ k x : Nat, c.l[k]? = some x → w.cell? ⟨lb, k, none⟩ = some (.int .i32 (x : Int)) := by
 obtain ⟨R, L, _, far, _, _⟩ := h
 have hil : ci < st.cls.length := (List.getElem?_eq_some_iff.1 hc).1
 obtain ⟨q0, q1, q2, q3⟩ := L.cls ci c hc
 obtain ⟨p1, p2⟩ := L.lits ci c hc
 obtain ⟨lb, lcap, hlv, hlB, hlb, _, hlcell, hlfz⟩ := R.form (.lits ci) (by rw [p1]; exact h0)
 obtain ⟨cb, ccap, hcv, hcB, hcl, _, hccell, hcfz⟩ := R.form .clauses (by rw [L.clsN]; omega)
 refine ⟨cb, ccap, lb, lcap, hcv, hlv, hcB, hlB, fun e => ?_, fun e => far (.lits ci) (by rw [hlv, e]; rfl), fun e => R.nb (.lits ci) (by rw [hlv, e]; rfl), fun e => far .clauses (by rw [hcv, e]; rfl), ?_, ?_, ?_, ?_, hlfz, fun k x hx => ?_⟩
 ·have := R.sep (.lits ci) .clauses lb (by rw [hlv]; rfl) (by rw [hcv, e]; rfl)
  cases this
 ·rw [R.field 0, ← L.clsN, ← hcv]; rfl
 ·rw [hccell (ci * 4) (by rw [L.clsN]; simp [Site.sz]; omega), Nat.mul_comm, q0, hlv, p1]
 ·rw [hccell (ci * 4 + 1) (by rw [L.clsN]; simp [Site.sz]; omega), Nat.mul_comm, q1]
 ·rw [hccell (ci * 4 + 2) (by rw [L.clsN]; simp [Site.sz]; omega), Nat.mul_comm, q2]
 ·have := (List.getElem?_eq_some_iff.1 hx).1
  rw [hlcell k (by rw [p1]; simp [Site.sz]; omega), p2]; exact litV_get _ _ _ hx
theorem WkM.heldC {B : Nat} {w : World} {bb : Nat} {st : St} {sl : Site → Slot} {wb ci o : Nat} (h : WkM B w bb st sl wb ci o) (hV : 0 < st.V) : ∃ hb hc, w.cell? ⟨bb, 3, none⟩ = some (.slice (some ⟨hb, 0, none⟩) (2 * st.V) hc) ∧ ∀ l, l < 2 * st.V → w.cell? ⟨hb, l, none⟩ = some (.int .i8 (st.held.getD l 0)) := by
 obtain ⟨R, L, _, _, _, _⟩ := h
 obtain ⟨hb, hc, hv, _, _, _, hcell, _⟩ := R.form .held (by rw [L.held.1]; omega)
 refine ⟨hb, hc, by rw [R.field 3, ← L.held.1, ← hv]; rfl, fun l hl => ?_⟩
 rw [hcell l (by rw [L.held.1]; simp [Site.sz]; omega), L.held.2]
 have : l < st.held.length := by rw [L.heldL]; exact hl
 rw [List.getD_eq_getElem?_getD]
 obtain ⟨x, hx⟩ := getElem_lt this
 rw [hx]; exact i8V_get _ _ _ hx
theorem WkM.swap {B : Nat} {w : World} {bb : Nat} {st : St} {sl : Site → Slot} {wb ci o : Nat} (h : WkM B w bb st sl wb ci o) {c : BC} (hc : st.cls[ci]? = some c) {lb lcap : Nat} (hlv : (sl (.lits ci)).v = .slice (some ⟨lb, 0, none⟩) (sl (.lits ci)).n lcap) {i j x y : Nat} (hx : c.l[i]? = some x) (hy : c.l[j]? = some y) : WkM B ((w.setCell ⟨lb, i, none⟩ (.int .i32 (y : Int))).setCell ⟨lb, j, none⟩ (.int .i32 (x : Int))) bb (st.listAt ci (swp c.l i j)) (setS sl (.lits ci) ⟨(sl (.lits ci)).v, (sl (.lits ci)).n, litV (swp c.l i j)⟩) wb ci o ∧ Below B w ((w.setCell ⟨lb, i, none⟩ (.int .i32 (y : Int))).setCell ⟨lb, j, none⟩ (.int .i32 (x : Int))) := by
 obtain ⟨p1, p2⟩ := h.L.lits ci c hc
 have hlB : B ≤ lb := ((h.R.rows (.lits ci)).lt lb (by rw [hlv]; rfl)).1
 have R1 := h.R.setR (.lits ci) hlv i (.int .i32 (y : Int))
 have R2 := R1.setR (.lits ci) (g := lb) (cap := lcap) (by rw [setS_same]; exact hlv) j (.int .i32 (x : Int))
 rw [setS_same, setS_twice] at R2
 dsimp only at R2
 have ex : litV (swp c.l i j) = ((sl (.lits ci)).xs.set i (.int .i32 (y : Int))).set j (.int .i32 (x : Int)) := by
  rw [p2]
  unfold swp litV
  have e1 : c.l.getD i 0 = x := by rw [List.getD_eq_getElem?_getD, hx]; rfl
  have e2 : c.l.getD j 0 = y := by rw [List.getD_eq_getElem?_getD, hy]; rfl
  rw [e1, e2, List.map_set, List.map_set]
 rw [← ex] at R2
 have ef : fields (setS sl (.lits ci) ⟨(sl (.lits ci)).v, (sl (.lits ci)).n, litV (swp c.l i j)⟩) (st.listAt ci (swp c.l i j)) = fields sl st := by rw [fields_next]; rfl
 refine ⟨h.turn (.lits ci) (by rw [hlv]; exact grown_trans' (gset _ _ _ _) (gset _ _ _ _)) (by rw [ef]; exact R2) (h.L.listAt hc _ (swp_len _ _ _)) (fun s' => ?_), setTo (setTo (Below.refl _ _) hlB h.R.size) hlB (by simpa using h.R.size)⟩
 by_cases e : s' = .lits ci
 ·subst e; rw [setS_same]
 ·rw [setS_other _ _ e]
end Go.Proofs.Ytefjicdhccfieaa
