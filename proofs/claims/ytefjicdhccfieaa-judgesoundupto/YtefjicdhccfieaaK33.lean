import Derived.Test.YtefjicdhccfieaaK01
import Derived.Test.YtefjicdhccfieaaK32
import Derived.Laws.IdiomCopy
set_option maxRecDepth 100000
set_option maxHeartbeats 16000000
namespace Go.Proofs.Ytefjicdhccfieaa
open Go.RowKit
theorem run_copy2 {P : Program} (w : World) (dT sT ty elem : TypeId) (dp sp : Option Addr) (dLen dCap sLen sCap : Nat) (hu : P.underlying dT = some (.slice elem)) (hs : (P.info? elem).map (·.size) = some 2) (b off m : Nat) (hm : m = Nat.min sLen dLen) (cs : List Value) (hn : cs.length = m * 2)
  (hpos : 0 < m → dp = some ⟨b, off, none⟩ ∧ ∃ ad, sp = some ad ∧ ∀ j v, cs[j]? = some v → w.cell? (ad.add j) = some v) (hc : ∀ j, j < cs.length → (w.cell? ⟨b, off + j, none⟩).isSome = true) (hf : ∀ j, j < cs.length → w.frozen? ⟨b, off + j, none⟩ = false) (h1 : ∀ v ∈ cs, v.oneCell' = true) :
  (Builtin.copy_ #[dT, sT] ty #[.slice dp dLen dCap, .slice sp sLen sCap]).run P w = .ok (goInt m) (w.setCells b off cs) := by
 cases hq : P.info? elem with
 | none => simp [hq] at hs
 | some i =>
  have hi : i.size = 2 := by simpa [hq] using hs
  by_cases h0 : m = 0
  ·subst h0
   have : cs = [] := List.eq_nil_of_length_eq_zero (by omega)
   subst this
   cases dp <;> cases sp <;> simp [Builtin.copy_, run_underlying hu, Builtin.lenOf, Builtin.firstCells, sizeOf, typeInfo, hq, ← hm, World.setCells, storeCells, loadCells, loadCellsFrom]
  ·obtain ⟨rfl, ad, rfl, hsrc⟩ := hpos (by omega)
   have hl := run_loadCells_list (P := P) w ad cs hsrc
   have hst := run_storeCells_cells (P := P) b off cs 0 w (by simpa using hc) (by simpa using hf) h1
   rw [hn] at hl
   simp [Builtin.copy_, run_underlying hu, Builtin.lenOf, Builtin.firstCells, sizeOf, typeInfo, hq, hi, ← hm, hl, hst]
theorem step_copy2 {P : Program} {ops : Array Oper} {o : Oper} {a : Act} {w : World} {K : Act → World → Prop} {Q : Exit → Act → World → Prop} {E : Prop} (hgd : o.guard = none) (d s : Operand) (dT sT : TypeId)
  (ho : o.op = .call { callee := .builtin .copy, args := #[d, s], argTypes := #[dT, sT] }) (elem : TypeId) (hu : P.underlying dT = some (.slice elem)) (hsz : (P.info? elem).map (·.size) = some 2)
  (dp sp : Option Addr) (dLen dCap sLen sCap : Nat) (hd : a.eval d = .slice dp dLen dCap) (hs : a.eval s = .slice sp sLen sCap) (b off m : Nat) (hm : m = Nat.min sLen dLen) (cs : List Value) (hn : cs.length = m * 2)
  (hpos : 0 < m → dp = some ⟨b, off, none⟩ ∧ ∃ ad, sp = some ad ∧ ∀ j v, cs[j]? = some v → w.cell? (ad.add j) = some v) (hc : ∀ j, j < cs.length → (w.cell? ⟨b, off + j, none⟩).isSome = true) (hf : ∀ j, j < cs.length → w.frozen? ⟨b, off + j, none⟩ = false) (h1 : ∀ v ∈ cs, v.oneCell' = true)
  (h : K (a.put o.dst (goInt m)) (w.setCells b off cs)) :
  if Region.wanted o (yielded ops a.tmps) = true then Oper.wp P o a w K Q else E := by
 have hw : Region.wanted o (yielded ops a.tmps) = true := by simp [Region.wanted, hgd]
 rw [if_pos hw]
 have hrun := run_copy2 (P := P) w dT sT o.type elem dp sp dLen dCap sLen sCap hu hsz b off m hm cs hn hpos hc hf h1
 unfold Oper.wp execOp
 simp only [ho, resolve, invoke, builtin, Sem.run_bind, Sem.run_pure, Result.andThen_ok, List.map_toArray, List.map_cons, List.map_nil, hd, hs, hrun]
 exact h
def setL : List Value → Nat → List Value → List Value
 | xs, _, [] => xs
 | xs, o, v :: r => setL (xs.set o v) (o + 1) r
theorem setL_get (xs : List Value) (o : Nat) (cs : List Value) (h : o + cs.length ≤ xs.length) (j : Nat) : (setL xs o cs)[j]? = if o ≤ j ∧ j < o + cs.length then cs[j - o]? else xs[j]? := by
 induction cs generalizing xs o with
 | nil => simp [setL]; intro h1 h2; omega
 | cons v r ih =>
  simp only [List.length_cons] at h
  rw [setL, ih _ _ (by simp; omega)]
  by_cases h1 : o + 1 ≤ j ∧ j < o + 1 + r.length
  ·rw [if_pos h1, if_pos (by simp; omega), show j - o = (j - (o + 1)) + 1 by omega, List.getElem?_cons_succ]
  ·rw [if_neg h1]
   by_cases h2 : j = o
   ·subst h2
    rw [if_pos (by simp), List.getElem?_set_self (by omega)]; simp
   ·rw [if_neg (by simp; omega), List.getElem?_set_ne (fun e => h2 e.symm)]
theorem Rows'.setRs {B : Nat} {w : World} {bb : Nat} {cs : Array Value} {sl : Site → Slot} (h : Rows' B w bb cs sl) (s : Site) {g cap : Nat} (hv : (sl s).v = .slice (some ⟨g, 0, none⟩) (sl s).n cap) (o : Nat) (vs : List Value) : Rows' B (w.setCells g o vs) bb cs (setS sl s ⟨(sl s).v, (sl s).n, setL (sl s).xs o vs⟩) ∧ w.grownBy (w.setCells g o vs) (some g) := by
 induction vs generalizing w sl o with
 | nil => exact ⟨by rw [World.setCells, setL, setS_self]; exact h, grown_refl' _ _⟩
 | cons v r ih =>
  have h1 := h.setR s hv o v
  obtain ⟨h2, h3⟩ := ih h1 (by rw [setS_same]; exact hv) (o + 1)
  rw [setS_same, setS_twice] at h2
  exact ⟨h2, grown_trans' (gset _ _ _ _) h3⟩
theorem wlV_len (es : List (Nat × Nat)) : (wlV es).length = es.length * 2 := by
 induction es with
 | nil => rfl
 | cons e r ih =>
  have : wlV (e :: r) = .int .i32 (e.1 : Int) :: .int .i32 (e.2 : Int) :: wlV r := by simp [wlV]
  rw [this]; simp [ih]; omega
theorem wlV_get (es : List (Nat × Nat)) {k : Nat} {e : Nat × Nat} (h : es[k]? = some e) : (wlV es)[k * 2]? = some (.int .i32 (e.1 : Int)) ∧ (wlV es)[k * 2 + 1]? = some (.int .i32 (e.2 : Int)) := by
 induction es generalizing k with
 | nil => cases h
 | cons a r ih =>
  have e1 : wlV (a :: r) = .int .i32 (a.1 : Int) :: .int .i32 (a.2 : Int) :: wlV r := by simp [wlV]
  rw [e1]
  cases k with
  | zero => simp at h; subst h; simp
  | succ k =>
   have := ih (k := k) (by simpa using h)
   rw [show (k + 1) * 2 = k * 2 + 2 by omega]
   simpa using this
theorem wlV_set (es : List (Nat × Nat)) (k : Nat) (e : Nat × Nat) : wlV (es.set k e) = ((wlV es).set (k * 2) (.int .i32 (e.1 : Int))).set (k * 2 + 1) (.int .i32 (e.2 : Int)) := by
 induction es generalizing k with
 | nil => simp [wlV]
 | cons a r ih =>
  have e1 : wlV (a :: r) = .int .i32 (a.1 : Int) :: .int .i32 (a.2 : Int) :: wlV r := by simp [wlV]
  cases k with
  | zero =>
   rw [e1]
   simp [wlV]
  | succ k =>
   rw [sC]
   have e2 : wlV (a :: r.set k e) = .int .i32 (a.1 : Int) :: .int .i32 (a.2 : Int) :: wlV (r.set k e) := by simp [wlV]
   rw [e2, e1, ih, show (k + 1) * 2 = k * 2 + 2 by omega]
   simp
theorem wlV_take (es : List (Nat × Nat)) (k : Nat) : (wlV es).take (k * 2) = wlV (es.take k) := by
 induction es generalizing k with
 | nil => simp [wlV]
 | cons a r ih =>
  have e1 : wlV (a :: r) = .int .i32 (a.1 : Int) :: .int .i32 (a.2 : Int) :: wlV r := by simp [wlV]
  cases k with
  | zero => simp [wlV]
  | succ k =>
   rw [e1, List.take_succ_cons]
   have e2 : wlV (a :: r.take k) = .int .i32 (a.1 : Int) :: .int .i32 (a.2 : Int) :: wlV (r.take k) := by simp [wlV]
   rw [e2, ← ih, show (k + 1) * 2 = k * 2 + 2 by omega]
   simp
theorem wlV_cat (a b : List (Nat × Nat)) : wlV (a ++ b) = wlV a ++ wlV b := by simp [wlV]
theorem wlV_drop (es : List (Nat × Nat)) (k : Nat) : (wlV es).drop (k * 2) = wlV (es.drop k) := by
 by_cases h : k ≤ es.length
 ·have h1 : wlV es = wlV (es.take k) ++ wlV (es.drop k) := by rw [← wlV_cat, List.take_append_drop]
  have h2 : (wlV (es.take k)).length = k * 2 := by rw [wlV_len, List.length_take, Nat.min_eq_left h]
  rw [h1, ← h2, List.drop_left]
 ·have h1 : es.drop k = [] := List.drop_eq_nil_of_le (by omega)
  rw [h1, List.drop_eq_nil_of_le (by rw [wlV_len]; omega)]; rfl
theorem wlV_one (es : List (Nat × Nat)) : ∀ v ∈ wlV es, v.oneCell' = true := by
 intro v hv
 obtain ⟨e, _, h⟩ := List.mem_flatMap.1 hv
 simp at h
 rcases h with rfl | rfl <;> rfl
theorem wlV_over (es : List (Nat × Nat)) (a i : Nat) (ha : a ≤ i) (hi : i ≤ es.length) : (setL (wlV es) (a * 2) (wlV (es.drop i))).take ((a + (es.length - i)) * 2) = wlV (es.take a ++ es.drop i) := by
 have hl : (wlV (es.drop i)).length = (es.length - i) * 2 := by rw [wlV_len, List.length_drop]
 have hL := wlV_len es
 apply List.ext_getElem?
 intro j
 rw [List.getElem?_take, wlV_cat, List.getElem?_append, ← wlV_take, List.length_take]
 by_cases h1 : j < (a + (es.length - i)) * 2
 ·rw [if_pos h1, setL_get _ _ _ (by rw [hl, hL]; omega)]
  by_cases h2 : j < a * 2
  ·rw [if_neg (by omega), if_pos (by rw [hL]; omega), List.getElem?_take, if_pos h2]
  ·rw [if_pos (by rw [hl]; omega), if_neg (by rw [hL]; omega), Nat.min_eq_left (by rw [hL]; omega)]
 ·rw [if_neg h1, if_neg (by rw [hL]; omega), Nat.min_eq_left (by rw [hL]; omega)]
  rw [List.getElem?_eq_none (by rw [hl]; omega)]
theorem Rows'.cutW {B : Nat} {w : World} {bb : Nat} {st : St} {sl : Site → Slot} {t l gb n cap m rb rcap : Nat} {xs : List Value} (R : Rows' B w bb (fields sl st) (setS sl (.wl t l) ⟨.slice (some ⟨gb, 0, none⟩) n cap, n, xs⟩)) (L : Link sl st) {es : List (Nat × Nat)} (hm : m ≤ n) (hes : xs.take (m * 2) = wlV es) (hel : es.length = m) (hrv : (sl (.row t)).v = .slice (some ⟨rb, 0, none⟩) (sl (.row t)).n rcap) :
  ∃ sl', Rows' B (w.setCell ⟨rb, l, none⟩ (.slice (some ⟨gb, 0, none⟩) m cap)) bb (fields sl' (st.putW t l es)) sl' ∧ Link sl' (st.putW t l es) ∧ Below B w (w.setCell ⟨rb, l, none⟩ (.slice (some ⟨gb, 0, none⟩) m cap)) ∧ sl' .clauses = sl .clauses ∧ ∀ i, sl' (.lits i) = sl (.lits i) := by
 have R1 := R.cut (.wl t l) (g := gb) (cap := cap) (by rw [setS_same]) m (by rw [setS_same]; exact hm)
 rw [setS_same, setS_twice] at R1
 dsimp only at R1
 have hx : xs.take (m * Site.sz (.wl t l)) = wlV es := hes
 rw [hx] at R1
 have e0 : (setS sl (.wl t l) ⟨.slice (some ⟨gb, 0, none⟩) m cap, m, wlV es⟩) (.row t) = sl (.row t) := setS_other _ _ (by intro e; cases e)
 have R2 := R1.setR (.row t) (g := rb) (cap := rcap) (by rw [e0]; exact hrv) l (.slice (some ⟨gb, 0, none⟩) m cap)
 rw [e0] at R2
 have L2 := L.putW t l es (.slice (some ⟨gb, 0, none⟩) m cap)
 rw [hel] at L2
 have hrB : B ≤ rb := by
  have := (R.rows (.row t)).lt rb
  rw [setS_other _ _ (by intro e; cases e)] at this
  exact (this (by rw [hrv]; rfl)).1
 refine ⟨_, ?_, L2, setTo (Below.refl _ _) hrB R.size, by rw [setS_other _ _ (by intro e; cases e), setS_other _ _ (by intro e; cases e)], fun i => by rw [setS_other _ _ (by intro e; cases e), setS_other _ _ (by intro e; cases e)]⟩
 have ef : fields (setS (setS sl (.wl t l) ⟨.slice (some ⟨gb, 0, none⟩) m cap, m, wlV es⟩) (.row t) ⟨(sl (.row t)).v, (sl (.row t)).n, (sl (.row t)).xs.set l (.slice (some ⟨gb, 0, none⟩) m cap)⟩) (st.putW t l es) = fields sl st := fields_addW sl st t l (0, 0) _ _ _
 rw [ef]; exact R2
theorem WkM.setW {B : Nat} {w : World} {bb : Nat} {st : St} {sl : Site → Slot} {wb ci o t l gb cap : Nat} (h : WkM B w bb st sl wb ci o) (ht : t < 2) (hl : l < 2 * st.V) (hv : (sl (.wl t l)).v = .slice (some ⟨gb, 0, none⟩) (sl (.wl t l)).n cap) (k : Nat) (e : Nat × Nat) :
  ∃ sl', WkM B ((w.setCell ⟨gb, k * 2, none⟩ (.int .i32 (e.1 : Int))).setCell ⟨gb, k * 2 + 1, none⟩ (.int .i32 (e.2 : Int))) bb (st.putW t l ((st.W t l).set k e)) sl' wb ci o ∧ (∀ s, (sl' s).v = (sl s).v) ∧ Below B w ((w.setCell ⟨gb, k * 2, none⟩ (.int .i32 (e.1 : Int))).setCell ⟨gb, k * 2 + 1, none⟩ (.int .i32 (e.2 : Int))) := by
 obtain ⟨p1, p2⟩ := h.L.wl t l ht hl
 have hB : B ≤ gb := ((h.R.rows (.wl t l)).lt gb (by rw [hv]; rfl)).1
 have R1 := h.R.setR (.wl t l) hv (k * 2) (.int .i32 (e.1 : Int))
 have R2 := R1.setR (.wl t l) (g := gb) (cap := cap) (by rw [setS_same]; exact hv) (k * 2 + 1) (.int .i32 (e.2 : Int))
 rw [setS_same, setS_twice] at R2
 dsimp only at R2
 rw [p2, ← wlV_set, p1, show (st.W t l).length = ((st.W t l).set k e).length by simp] at R2
 have ef : fields (setS sl (.wl t l) ⟨(sl (.wl t l)).v, ((st.W t l).set k e).length, wlV ((st.W t l).set k e)⟩) (st.putW t l ((st.W t l).set k e)) = fields sl st := by simp [fields, setS, St.putW]
 have hvs : ∀ s, (setS sl (.wl t l) ⟨(sl (.wl t l)).v, ((st.W t l).set k e).length, wlV ((st.W t l).set k e)⟩ s).v = (sl s).v := fun s => by
  by_cases e : s = .wl t l
  ·subst e; rw [setS_same]
  ·rw [setS_other _ _ e]
 refine ⟨_, h.turn (.wl t l) (by rw [hv]; exact grown_trans' (gset _ _ _ _) (gset _ _ _ _)) (by rw [ef]; exact R2) (h.L.putW0 t l _) hvs, hvs, setTo (setTo (Below.refl _ _) hB h.R.size) hB (by simpa using h.R.size)⟩
end Go.Proofs.Ytefjicdhccfieaa

set_option maxRecDepth 100000
set_option maxHeartbeats 16000000
namespace Go.Proofs.Ytefjicdhccfieaa
open Go.RowKit
theorem wakeNear (B : Nat) (w : World) (bb : Nat) (st : St) (sl : Site → Slot) (wb ci o t : Nat) (M : WkM B w bb st sl wb ci o) (c : BC) (hc : st.cls[ci]? = some c) (hl2 : 2 ≤ c.l.length) (hct : c.tier < 2) (htt : t < 2) (htz : t = 0 → c.tier = 0) (K' : Act → World → Prop) (Q0 : Exit → Act → World → Prop) (x1 x3 x4 x5 x6 x7 x8 x9 x11 x12 x13 x14 x15 x16 x17 x18 x19 x20 x21 x22 x23 x24 x25 x26 x27 x28 x29 x30 x31 x32 x33 x34 x35 x36 x37 x38 x39 x40 x41 x42 x43 x44 x45 x46 x47 x48 x49 x50 x51 x52 x53 x54 x55 x56 x57 x58 x59 x60 x61 x62 x63 x64 x65 x66 x67 x68 x69 x70 x71 x72 x73 x74 x75 x76 x77 x78 x79 x80 x81 x82 x83 x84 x85 x86 x87 x88 x89 x90 x91 x92 x93 x94 x95 x96 x97 x98 x99 x100 x101 x102 x103 x104 x105 x106 x107 x108 x109 x110 x111 x112 x113 x114 x115 x116 x117 x118 x119 x120 x121 x122 x123 x124 x125 x126 x127 x128 x129 x130 x131 x132 x133 x134 x135 x136 x137 x138 x139 x140 x141 x142 x143 x144 x145 x146 x147 x148 x149 x150 x151 x152 x153 x154 x155 x156 x157 x158 x159 x160 x161 x162 x163 x164 x165 x166 x167 x168 x169 x170 x171 x172 x173 x174 x175 x176 x177 x178 x179 x180 x181 x182 x183 x184 x185 x186 x187 x188 x189 x190 x191 x192 x193 x194 x195 x196 x197 x198 x199 x200 x201 x202 x203 x204 x205 x206 x207 x208 x209 x210 x211 x212 x213 x214 x215 x216 x217 : Value)
  (HK : Hid (∀ (w' : World) (s28 s29 s30 s31 s32 s33 s34 s35 s36 s37 s38 s39 s40 s41 : Value), c.tier = t ∧ Below w.heap.size w w' → K' ⟨#[.pointer (some ⟨bb, 0, none⟩), x1, .int .i64 (t : Int), x3, x4, x5, x6, x7, x8, x9, .pointer (some ⟨wb, 0, none⟩), x11, x12, x13, x14, x15, x16, x17, x18, x19, x20, x21, x22, x23, x24, x25, x26, x27, s28, s29, s30, s31, s32, s33, s34, s35, s36, s37, s38, s39, s40, s41, x42, x43, x44, x45, x46, x47, x48, x49, x50, x51, x52, x53, x54, x55, x56, x57, x58, x59, x60, x61, x62, x63, x64, x65, x66, x67, x68, x69, x70, x71, x72, x73, x74, x75, x76, x77, x78, x79, x80, x81, x82, x83, x84, x85, x86, x87, x88, x89, x90, x91, x92, x93, x94, x95, x96, x97, x98, x99, x100, x101, x102, x103, x104, x105, x106, x107, x108, x109, x110, x111, x112, x113, x114, x115, x116, x117, x118, x119, x120, x121, x122, x123, x124, x125, x126, x127, x128, x129, x130, x131, x132, x133, x134, x135, x136, x137, x138, x139, x140, x141, x142, x143, x144, x145, x146, x147, x148, x149, x150, x151, x152, x153, x154, x155, x156, x157, x158, x159, x160, x161, x162, x163, x164, x165, x166, x167, x168, x169, x170, x171, x172, x173, x174, x175, x176, x177, x178, x179, x180, x181, x182, x183, x184, x185, x186, x187, x188, x189, x190, x191, x192, x193, x194, x195, x196, x197, x198, x199, x200, x201, x202, x203, x204, x205, x206, x207, x208, x209, x210, x211, x212, x213, x214, x215, x216, x217], []⟩ w'))
  (HQ : Hid (∀ (w' : World) (s28 s29 s30 s31 s32 s33 s34 s35 s36 s37 s38 s39 s40 s41 : Value), c.tier ≠ t ∧ Below w.heap.size w w' → Q0 (.exit 1) ⟨#[.pointer (some ⟨bb, 0, none⟩), x1, .int .i64 (t : Int), x3, x4, x5, x6, x7, x8, x9, .pointer (some ⟨wb, 0, none⟩), x11, x12, x13, x14, x15, x16, x17, x18, x19, x20, x21, x22, x23, x24, x25, x26, x27, s28, s29, s30, s31, s32, s33, s34, s35, s36, s37, s38, s39, s40, s41, x42, x43, x44, x45, x46, x47, x48, x49, x50, x51, x52, x53, x54, x55, x56, x57, x58, x59, x60, x61, x62, x63, x64, x65, x66, x67, x68, x69, x70, x71, x72, x73, x74, x75, x76, x77, x78, x79, x80, x81, x82, x83, x84, x85, x86, x87, x88, x89, x90, x91, x92, x93, x94, x95, x96, x97, x98, x99, x100, x101, x102, x103, x104, x105, x106, x107, x108, x109, x110, x111, x112, x113, x114, x115, x116, x117, x118, x119, x120, x121, x122, x123, x124, x125, x126, x127, x128, x129, x130, x131, x132, x133, x134, x135, x136, x137, x138, x139, x140, x141, x142, x143, x144, x145, x146, x147, x148, x149, x150, x151, x152, x153, x154, x155, x156, x157, x158, x159, x160, x161, x162, x163, x164, x165, x166, x167, x168, x169, x170, x171, x172, x173, x174, x175, x176, x177, x178, x179, x180, x181, x182, x183, x184, x185, x186, x187, x188, x189, x190, x191, x192, x193, x194, x195, x196, x197, x198, x199, x200, x201, x202, x203, x204, x205, x206, x207, x208, x209, x210, x211, x212, x213, x214, x215, x216, x217], []⟩ w')):
  Code.wp Try.prog ((Try.f72.body.bind (seqAt 6)).getD .skip) (Exit.then K' Q0) ⟨#[.pointer (some ⟨bb, 0, none⟩), x1, .int .i64 (t : Int), x3, x4, x5, x6, x7, x8, x9, .pointer (some ⟨wb, 0, none⟩), x11, x12, x13, x14, x15, x16, x17, x18, x19, x20, x21, x22, x23, x24, x25, x26, x27, x28, x29, x30, x31, x32, x33, x34, x35, x36, x37, x38, x39, x40, x41, x42, x43, x44, x45, x46, x47, x48, x49, x50, x51, x52, x53, x54, x55, x56, x57, x58, x59, x60, x61, x62, x63, x64, x65, x66, x67, x68, x69, x70, x71, x72, x73, x74, x75, x76, x77, x78, x79, x80, x81, x82, x83, x84, x85, x86, x87, x88, x89, x90, x91, x92, x93, x94, x95, x96, x97, x98, x99, x100, x101, x102, x103, x104, x105, x106, x107, x108, x109, x110, x111, x112, x113, x114, x115, x116, x117, x118, x119, x120, x121, x122, x123, x124, x125, x126, x127, x128, x129, x130, x131, x132, x133, x134, x135, x136, x137, x138, x139, x140, x141, x142, x143, x144, x145, x146, x147, x148, x149, x150, x151, x152, x153, x154, x155, x156, x157, x158, x159, x160, x161, x162, x163, x164, x165, x166, x167, x168, x169, x170, x171, x172, x173, x174, x175, x176, x177, x178, x179, x180, x181, x182, x183, x184, x185, x186, x187, x188, x189, x190, x191, x192, x193, x194, x195, x196, x197, x198, x199, x200, x201, x202, x203, x204, x205, x206, x207, x208, x209, x210, x211, x212, x213, x214, x215, x216, x217], []⟩ w := by
 conv => arg 2; whnf
 obtain ⟨cb, ccap, lb, lcap, -, -, -, -, -, -, -, -, f0, -, -, ft, -, -⟩ := M.clause hc (by omega)
 have hil : ci < st.cls.length := (List.getElem?_eq_some_iff.1 hc).1
 obtain ⟨cn, HCN⟩ : ∃ n, Hid (n = st.cls.length) := ⟨_, rfl⟩
 rw [← HCN.out] at f0
 obtain ⟨ct, HCT⟩ : ∃ n, Hid (n = c.tier) := ⟨_, rfl⟩
 rw [← HCT.out] at ft
 have b0 := M.c0
 have hcI : (ci : Int) < (cn : Int) := by have := HCN.out; omega
 have KB : Hid ((fun w' => w'.cell? ⟨bb, 0, none⟩ = some (.slice (some ⟨cb, 0, none⟩) cn ccap) ∧ w'.cell? ⟨wb, 0, none⟩ = some (.int .i32 (ci : Int)) ∧ w'.cell? ⟨cb, ci * 4 + 2, none⟩ = some (.int .i64 (ct : Int))) w) := ⟨f0, b0, ft⟩
 have HTZ := hidden htz
 have HHC := hidden hc
 clear hc htz M
 rcases (show t = 0 ∨ t = 1 by omega) with ht0 | ht0
 ·subst ht0
  have HP : Hid (c.tier = 0 ∧ Below w.heap.size w w.drew) := ⟨HTZ.out rfl, Below.drew (Below.refl _ _)⟩
  clear f0 ft b0 hcI
  go_upto_region 6 with fail
  refine wp_region_noPanic ?_
  refine wp_region_held_drew (S := (fun _ => True)) (by kernel_rfl) (by trivial) (fun hHeld => ?_)
  refine tk 0 ?_
  refine tk 1 ?_
  refine tk 2 ?_
  refine tu 3 ?_
  refine tu 4 ?_
  refine tu 5 ?_
  refine tu 6 ?_
  refine tu 7 ?_
  refine tu 8 ?_
  refine tu 9 ?_
  refine tu 10 ?_
  refine tu 11 ?_
  refine tu 12 ?_
  refine tk 13 ?_
  refine wpAnyH_done (by kernel_rfl) ?_ _
  refine NoPanic.normal ?_
  go_wp2
  exact HK.out _ _ _ _ _ _ _ _ _ _ _ _ _ _ _ HP.out
 ·subst ht0
  by_cases hz : ct = 0
  ·subst hz
   have HP : Hid (c.tier ≠ 1 ∧ Below w.heap.size w w.drew) := ⟨by rw [← HCT.out]; omega, Below.drew (Below.refl _ _)⟩
   go_upto_region 6 with fail
   refine wp_region_noPanic ?_
   refine wp_region_held_drew (S := (fun w' => w'.cell? ⟨bb, 0, none⟩ = some (.slice (some ⟨cb, 0, none⟩) cn ccap) ∧ w'.cell? ⟨wb, 0, none⟩ = some (.int .i32 (ci : Int)) ∧ w'.cell? ⟨cb, ci * 4 + 2, none⟩ = some (.int .i64 ((0 : Nat) : Int)))) (by kernel_rfl) (by first | assumption | exact KB.out) (fun hHeld => ?_)
   refine tk 0 ?_
   refine tk 1 ?_
   refine tk 2 ?_
   refine tk 3 ?_
   refine tk 4 ?_
   refine tk 5 ?_
   refine tk 6 ?_
   refine tk 7 ?_
   refine tk 8 ?_
   refine tk 9 ?_
   refine tk 10 ?_
   refine tk 11 ?_
   refine tk 12 ?_
   refine tk 13 ?_
   refine wpAnyH_done (by kernel_rfl) ?_ _
   refine NoPanic.normal ?_
   clear f0 ft b0 hcI KB
   go_wp2
   exact HQ.out _ _ _ _ _ _ _ _ _ _ _ _ _ _ _ HP.out
  ·have HP : Hid (c.tier = 1 ∧ Below w.heap.size w w.drew) := ⟨by have := HCT.out; omega, Below.drew (Below.refl _ _)⟩
   have hz1 : ct = 1 := by have := HCT.out; omega
   subst hz1
   go_upto_region 6 with fail
   refine wp_region_noPanic ?_
   refine wp_region_held_drew (S := (fun w' => w'.cell? ⟨bb, 0, none⟩ = some (.slice (some ⟨cb, 0, none⟩) cn ccap) ∧ w'.cell? ⟨wb, 0, none⟩ = some (.int .i32 (ci : Int)) ∧ w'.cell? ⟨cb, ci * 4 + 2, none⟩ = some (.int .i64 ((1 : Nat) : Int)))) (by kernel_rfl) (by first | assumption | exact KB.out) (fun hHeld => ?_)
   refine tk 0 ?_
   refine tk 1 ?_
   refine tk 2 ?_
   refine tk 3 ?_
   refine tk 4 ?_
   refine tk 5 ?_
   refine tk 6 ?_
   refine tk 7 ?_
   refine tk 8 ?_
   refine tk 9 ?_
   refine tk 10 ?_
   refine tk 11 ?_
   refine tk 12 ?_
   refine tk 13 ?_
   refine wpAnyH_done (by kernel_rfl) ?_ _
   refine NoPanic.normal ?_
   clear f0 ft b0 hcI KB
   go_wp2
   exact HK.out _ _ _ _ _ _ _ _ _ _ _ _ _ _ _ HP.out
end Go.Proofs.Ytefjicdhccfieaa
