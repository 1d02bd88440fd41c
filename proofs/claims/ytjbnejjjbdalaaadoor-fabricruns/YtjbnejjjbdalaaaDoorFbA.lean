import Derived.Test.YtjbnejjjbdalaaaDoorFaZ
namespace Go.Proofs.YtjbnejjjbdalaaaDoor
open Go.RowKit

theorem step_make_full {P : Program} {ops : Array Oper} {o : Oper} {a : Act} {w : World} {K : Act → World → Prop} {Q : Exit → Act → World → Prop} {E : Prop} (hg : o.guard = none) (l c : Operand) (t : TypeId) (hop : o.op = Op.makeSlice t l c)
    (base : Nat) (e : TypeId) (i : TypeInfo) (z : Value) (size : Nat) (h1 : P.underlying t = some (.slice e)) (h2 : P.info? e = some i) (h3 : i.zero = some z) (h4 : i.size = size)
    (kl kc : IntKind) (L C : Int) (n : Nat) (hl : a.eval l = .int kl L) (hc : a.eval c = .int kc C) (hL : L = (n : Int)) (hC : C = (n : Int)) (b2 : i.bytes * n ≤ 281474976710656) (b3 : n ≤ maxLen) (b4 : base ≤ w.heap.size)
    (h : ∀ w', w'.ownsRow base e size (.slice (some ⟨w.heap.size, 0, none⟩) n n) n (madeCells z.cells (n * size)).toList → w.grownBy w' none → K (a.put o.dst (.slice (some ⟨w.heap.size, 0, none⟩) n n)) w') :
    if Region.wanted o (yielded ops a.tmps) = true then Oper.wp P o a w K Q else E := by
  have hw : Region.wanted o (yielded ops a.tmps) = true := by simp [Region.wanted, hg]
  rw [if_pos hw]
  obtain ⟨w', hrun, r1, r2⟩ := run_make_full (P := P) w base t e i z size h1 h2 h3 h4 kl kc n b2 b3 b4
  subst hL
  subst hC
  unfold Oper.wp
  simp [execOp, hop, hl, hc, hrun, Result.andThen]
  exact h w' r1 r2
theorem made_u8 (n : Nat) : (madeCells (Value.int .u8 0).cells (n * 1)).toList = (List.replicate n false).map b8 := by
  rw [Nat.mul_one]
  apply List.ext_getElem?
  intro i
  by_cases h : i < n
  · simp [madeCells, Value.cells, b8, bN, h, Nat.mod_one]
  · simp [madeCells, Value.cells, h]
theorem row_of_madeC {w : World} {B g nv : Nat} (h : w.ownsRow B 5 1 (.slice (some ⟨g, 0, none⟩) nv nv) nv (madeCells (Value.int .u8 0).cells (nv * 1)).toList) : Blk w g 5 ((List.replicate nv false).map b8).toArray := by
  rw [made_u8] at h
  rcases h.2 with ⟨h', _⟩ | ⟨g', cap', cur, h', _, hh, _, _, hcs, htake⟩
  · simp at h'
  · simp only [Value.slice.injEq, Option.some.injEq, Addr.mk.injEq, and_true, true_and] at h'
    obtain ⟨rfl, rfl⟩ := h'
    show _ = _
    rw [hh]
    rw [List.take_of_length_le (by rw [Array.length_toList, hcs]; exact Nat.le_refl _)] at htake
    rw [← htake]

theorem rep_cell {w : World} {g n i : Nat} {t : TypeId} (h : Blk w g t ((List.replicate n false).map b8).toArray) (hi : i < n) : w.cell? ⟨g, i, none⟩ = some (.int .u8 0) :=
  h.cell (by rw [List.getElem?_toArray, List.getElem?_map, List.getElem?_replicate, if_pos hi]; rfl)
def lineV (nl : Nat) (ls : List Nat) (i : Nat) : Value := match ls[i]? with | some g => .slice (some ⟨g, 0, none⟩) nl nl | none => .slice none 0 0
def stA (gb sb ns nl : Nat) (ls : List Nat) : Array Value := #[.pointer (some ⟨gb, 0, none⟩), .slice (some ⟨sb, 0, none⟩) ns ns, lineV nl ls 0, lineV nl ls 1, .slice none 0 0]
theorem stA_set {gb sb ns nl k g : Nat} {ls : List Nat} (hl : ls.length = k) (hk : k = 0 ∨ k = 1) : (stA gb sb ns nl ls).setIfInBounds (2 + k) (.slice (some ⟨g, 0, none⟩) nl nl) = stA gb sb ns nl (ls ++ [g]) := by
  rcases hk with rfl | rfl
  · cases ls with
    | nil => rfl
    | cons a t => cases hl
  · match ls, hl with
    | [a], _ => rfl
/-- a machine that was made -/
def StartP (w : World) (gb ns nw ni : Nat) (inits : List Bool) (e : Ending) (w' : World) : Prop := ∃ mk sb g0 g1, e = .returned (.pointer (some ⟨mk, 0, none⟩)) ∧ Blk w' mk 84 (machA gb sb g0 g1 ns (2 + nw) (2 + nw) (.slice none 0 0)) ∧ BRow w' sb ([false, true] ++ (List.replicate ni false ++ inits)) ∧ BRow w' g0 ([false, true] ++ List.replicate nw false) ∧ BRow w' g1 ([false, true] ++ List.replicate nw false) ∧
      (mk ≠ sb ∧ g0 ≠ sb ∧ g1 ≠ sb ∧ g0 ≠ g1 ∧ mk ≠ g0 ∧ mk ≠ g1) ∧ (w.heap.size ≤ mk ∧ w.heap.size ≤ sb ∧ w.heap.size ≤ g0 ∧ w.heap.size ≤ g1) ∧ Below w.heap.size w w'
/-- a machine that is being made, with so many lines -/
structure StP (w w' : World) (mk gb sb ns nl : Nat) (V : List Bool) (ls : List Nat) : Prop where
  m : Blk w' mk 84 (stA gb sb ns nl ls)
  s : BRow w' sb V
  l : ∀ (i g : Nat), ls[i]? = some g → BRow w' g ((List.replicate nl false).set 1 true) ∧ g ≠ sb ∧ g ≠ mk ∧ w.heap.size ≤ g
  nd : ls.Nodup
  b : Below w.heap.size w w'
  mw : w.heap.size ≤ mk
  sw : w.heap.size ≤ sb
  ms : mk ≠ sb

set_option maxRecDepth 100000 in
set_option maxHeartbeats 8000000 in
theorem startC_any (w : World) (gb ni nr nw : Nat) (S : CnS) (N : CnD) (hx : BoxAt w gb S N) (hni : N.sh.ins = (ni : Int)) (hnr : N.sh.regs = (nr : Int)) (hnw : N.sh.rows = (nw : Int)) (hrl : N.regs.length = nr) (hn0 : ni ≤ 1000) (hn1 : nr ≤ 1000) (hn2 : nw ≤ 1000) (HRG : Hid (RowAt w.heap.size w S.a2 2 (N.regs.map RgD.cells))) :
    Calls Tryd.prog 17 #[.pointer (some ⟨gb, 0, none⟩)] w fun e w' => StartP w gb (2 + ni + nr) nw ni (N.regs.map RgD.init) e w' := by
  obtain ⟨ib, hib, hzb, hsb, hbb⟩ := info_u8
  have HI := hidden hib
  have HZ := hidden hzb
  have HS := hidden hsb
  have HBY := hidden hbb
  clear hib hzb hsb hbb
  have HBX := hidden hx
  have blt := hx.lt
  have q0 := hx.c0
  have q2 := hx.c2
  rw [hni] at q0
  rw [hnr] at q2
  have HNWE := hidden hnw
  have KP : Hid (∀ w', Below w.heap.size w w' → (fun w' => w'.cell? ⟨gb, 0, none⟩ = some (.int .i64 (ni : Int)) ∧ w'.cell? ⟨gb, 2, none⟩ = some (.int .i64 (nr : Int))) w') := fun w' hw' => ⟨(hw'.cell (p := ⟨gb, 0, none⟩) blt).trans q0, (hw'.cell (p := ⟨gb, 2, none⟩) blt).trans q2⟩
  obtain ⟨ns, HNS⟩ : ∃ n : Nat, Hid (n = 2 + ni + nr) := ⟨_, rfl⟩
  rw [← HNS.out]
  obtain ⟨lo, HLO⟩ : ∃ n : Nat, Hid (n = 2 + ni) := ⟨_, rfl⟩
  have e1 : IntKind.i64.wrap (2 + (ni : Int)) = (lo : Int) := by rw [wrapI _ (by omega) (by omega), HLO.out]; omega
  have e2 : IntKind.i64.wrap ((lo : Int) + (nr : Int)) = (ns : Int) := by have h1 := HLO.out; have h2 := HNS.out; rw [wrapI _ (by omega) (by omega)]; omega
  have hns : ns ≤ 3000 := by have := HNS.out; omega
  have hns2 : 2 ≤ ns := by have := HNS.out; omega
  have hmkb : ib.bytes * ns ≤ 281474976710656 := by rw [HBY.out]; omega
  have hmx : ns ≤ maxLen := by simp only [maxLen]; omega
  have HB0 : Hid (Below w.heap.size w w.drew) := Below.drew (Below.refl _ _)
  obtain ⟨l, HL⟩ : ∃ l, Hid (N.regs = l) := ⟨_, rfl⟩
  rw [HL.out] at HRG hrl
  rw [HL.out]
  have HNR := hidden hrl
  clear hx hnw hni hnr hrl
  go_enter Tryd.func17, Tryd.ntmps17
  go_upto_region 1 with fail
  refine wp_region_noPanic ?_
  refine wp_region_held_drew (S := (fun w' => w'.cell? ⟨gb, 0, none⟩ = some (.int .i64 (ni : Int)) ∧ w'.cell? ⟨gb, 2, none⟩ = some (.int .i64 (nr : Int)))) (by kernel_rfl) (by first | assumption | exact KP.out _ HB0.out | exact KP.out _ HB1.out | exact KP.out _ HB2.out) (fun hHeld => ?_)
  refine wpAnyH_take (i := 0) (oi := _) (v := ?_) rfl (by kernel_rfl) (by kernel_rfl) (by kernel_rfl) (fun _ _ _ h => h) (Or.inl ⟨by rfl, ?_⟩) (by assumption) ?_
  rotate_left
  · (intro w0 hSw; (try dsimp only at hSw); (try simp only [List.getElem_toArray, List.getElem_cons_zero]); go_simp; try (with_reducible rfl))
  try simp only [Act.put, List.getElem_toArray, List.getElem_cons_zero, List.setIfInBounds_toArray, List.set_cons_zero, List.set_cons_succ]
  refine wpAnyH_take (i := 1) (oi := _) (v := ?_) rfl (by kernel_rfl) (by kernel_rfl) (by kernel_rfl) (fun _ _ _ h => h) (Or.inl ⟨by rfl, ?_⟩) (by assumption) ?_
  rotate_left
  · (intro w0 hSw; (try dsimp only at hSw); (try simp only [List.getElem_toArray, List.getElem_cons_zero, List.getElem_cons_succ]); go_simp; try (with_reducible rfl))
  try simp only [Act.put, List.getElem_toArray, List.getElem_cons_zero, List.getElem_cons_succ, List.setIfInBounds_toArray, List.set_cons_zero, List.set_cons_succ]
  refine wpAnyH_take (i := 2) (oi := _) (v := ?_) rfl (by kernel_rfl) (by kernel_rfl) (by kernel_rfl) (fun _ _ _ h => h) (Or.inl ⟨by rfl, ?_⟩) (by assumption) ?_
  rotate_left
  · (intro w0 hSw; (try dsimp only at hSw); (try simp only [List.getElem_toArray, List.getElem_cons_zero, List.getElem_cons_succ]); go_simp; try (with_reducible rfl))
  try simp only [Act.put, List.getElem_toArray, List.getElem_cons_zero, List.getElem_cons_succ, List.setIfInBounds_toArray, List.set_cons_zero, List.set_cons_succ]
  refine wpAnyH_take (i := 3) (oi := _) (v := ?_) rfl (by kernel_rfl) (by kernel_rfl) (by kernel_rfl) (fun _ _ _ h => h) (Or.inl ⟨by rfl, ?_⟩) (by assumption) ?_
  rotate_left
  · (intro w0 hSw; (try dsimp only at hSw); (try simp only [List.getElem_toArray, List.getElem_cons_zero, List.getElem_cons_succ]); go_simp; try (with_reducible rfl))
  try simp only [Act.put, List.getElem_toArray, List.getElem_cons_zero, List.getElem_cons_succ, List.setIfInBounds_toArray, List.set_cons_zero, List.set_cons_succ]
  refine wpAnyH_take (i := 4) (oi := _) (v := ?_) rfl (by kernel_rfl) (by kernel_rfl) (by kernel_rfl) (fun _ _ _ h => h) (Or.inl ⟨by rfl, ?_⟩) (by assumption) ?_
  rotate_left
  · (intro w0 hSw; (try dsimp only at hSw); (try simp only [List.getElem_toArray, List.getElem_cons_zero, List.getElem_cons_succ]); go_simp; try (with_reducible rfl))
  try simp only [Act.put, List.getElem_toArray, List.getElem_cons_zero, List.getElem_cons_succ, List.setIfInBounds_toArray, List.set_cons_zero, List.set_cons_succ]
  refine wpAnyH_take (i := 5) (oi := _) (v := ?_) rfl (by kernel_rfl) (by kernel_rfl) (by kernel_rfl) (fun _ _ _ h => h) (Or.inl ⟨by rfl, ?_⟩) (by assumption) ?_
  rotate_left
  · (intro w0 hSw; (try dsimp only at hSw); (try simp only [List.getElem_toArray, List.getElem_cons_zero, List.getElem_cons_succ]); go_simp; try (with_reducible rfl))
  try simp only [Act.put, List.getElem_toArray, List.getElem_cons_zero, List.getElem_cons_succ, List.setIfInBounds_toArray, List.set_cons_zero, List.set_cons_succ]
  refine wpAnyH_take (i := 6) (oi := _) (v := ?_) rfl (by kernel_rfl) (by kernel_rfl) (by kernel_rfl) (fun _ _ _ h => h) (Or.inl ⟨by rfl, ?_⟩) (by assumption) ?_
  rotate_left
  · (intro w0 hSw; (try dsimp only at hSw); (try simp only [List.getElem_toArray, List.getElem_cons_zero, List.getElem_cons_succ]); go_simp; try (with_reducible rfl))
  try simp only [Act.put, List.getElem_toArray, List.getElem_cons_zero, List.getElem_cons_succ, List.setIfInBounds_toArray, List.set_cons_zero, List.set_cons_succ]
  refine wpAnyH_take (i := 7) (oi := _) (v := ?_) rfl (by kernel_rfl) (by kernel_rfl) (by kernel_rfl) (fun _ _ _ h => h) (Or.inl ⟨by rfl, ?_⟩) (by assumption) ?_
  rotate_left
  · (intro w0 hSw; (try dsimp only at hSw); (try simp only [List.getElem_toArray, List.getElem_cons_zero, List.getElem_cons_succ]); go_simp; try (with_reducible rfl))
  try simp only [Act.put, List.getElem_toArray, List.getElem_cons_zero, List.getElem_cons_succ, List.setIfInBounds_toArray, List.set_cons_zero, List.set_cons_succ]
  refine wpAnyH_take (i := 8) (oi := _) (v := ?_) rfl (by kernel_rfl) (by kernel_rfl) (by kernel_rfl) (fun _ _ _ h => h) (Or.inl ⟨by rfl, ?_⟩) (by assumption) ?_
  rotate_left
  · (intro w0 hSw; (try dsimp only at hSw); (try simp only [List.getElem_toArray, List.getElem_cons_zero, List.getElem_cons_succ]); go_simp; try (with_reducible rfl))
  try simp only [Act.put, List.getElem_toArray, List.getElem_cons_zero, List.getElem_cons_succ, List.setIfInBounds_toArray, List.set_cons_zero, List.set_cons_succ]
  refine wpAnyH_take (i := 9) (oi := _) (v := ?_) rfl (by kernel_rfl) (by kernel_rfl) (by kernel_rfl) (fun _ _ _ h => h) (Or.inl ⟨by rfl, ?_⟩) (by assumption) ?_
  rotate_left
  · (intro w0 hSw; (try dsimp only at hSw); (try simp only [List.getElem_toArray, List.getElem_cons_zero, List.getElem_cons_succ]); go_simp; try (with_reducible rfl))
  try simp only [Act.put, List.getElem_toArray, List.getElem_cons_zero, List.getElem_cons_succ, List.setIfInBounds_toArray, List.set_cons_zero, List.set_cons_succ]
  refine wpAnyH_take (i := 10) (oi := _) (v := ?_) rfl (by kernel_rfl) (by kernel_rfl) (by kernel_rfl) (fun _ _ _ h => h) (Or.inl ⟨by rfl, ?_⟩) (by assumption) ?_
  rotate_left
  · (intro w0 hSw; (try dsimp only at hSw); (try simp only [List.getElem_toArray, List.getElem_cons_zero, List.getElem_cons_succ]); go_simp; try (with_reducible rfl))
  try simp only [Act.put, List.getElem_toArray, List.getElem_cons_zero, List.getElem_cons_succ, List.setIfInBounds_toArray, List.set_cons_zero, List.set_cons_succ]
  refine wpAnyH_take (i := 11) (oi := _) (v := ?_) rfl (by kernel_rfl) (by kernel_rfl) (by kernel_rfl) (fun _ _ _ h => h) (Or.inl ⟨by rfl, ?_⟩) (by assumption) ?_
  rotate_left
  · (intro w0 hSw; (try dsimp only at hSw); (try simp only [List.getElem_toArray, List.getElem_cons_zero, List.getElem_cons_succ]); go_simp; try (with_reducible rfl))
  try simp only [Act.put, List.getElem_toArray, List.getElem_cons_zero, List.getElem_cons_succ, List.setIfInBounds_toArray, List.set_cons_zero, List.set_cons_succ]
  refine wpAnyH_take (i := 12) (oi := _) (v := ?_) rfl (by kernel_rfl) (by kernel_rfl) (by kernel_rfl) (fun _ _ _ h => h) (Or.inl ⟨by rfl, ?_⟩) (by assumption) ?_
  rotate_left
  · (intro w0 hSw; (try dsimp only at hSw); (try simp only [List.getElem_toArray, List.getElem_cons_zero, List.getElem_cons_succ]); go_simp; try (with_reducible rfl))
  try simp only [Act.put, List.getElem_toArray, List.getElem_cons_zero, List.getElem_cons_succ, List.setIfInBounds_toArray, List.set_cons_zero, List.set_cons_succ]
  refine wpAnyH_ready (rs := [13]) (by kernel_rfl) (by simp) ?_
  refine AllReadyH.cons (o := _) rfl (fun K hK => ?_) AllReadyH.nil
  refine step_make_full rfl (.tmp 19) (.tmp 19) 22 rfl w.heap.size 5 ib _ 1 Tryd.underlying22 HI.out HZ.out HS.out .i64 .i64 (ns : Int) (ns : Int) ns rfl rfl rfl rfl hmkb hmx (by simp) ?_
  intro w1 hown1 hgrow1
  have HB1 : Hid (Below w.heap.size w w1) := (Below.drew (Below.refl _ _)).trans (none_below hgrow1)
  have HR1 := hidden (row_of_madeC hown1)
  have hs1 := (hown1.lt w.heap.size rfl).2
  have HB2 : Hid (Below w.heap.size w (w1.alloc (.cells #[.pointer (some ⟨gb, 0, none⟩), .slice (some ⟨w.heap.size, 0, none⟩) ns ns, .slice none 0 0, .slice none 0 0, .slice none 0 0] 84))) := HB1.out.alloc HB1.out.size _
  clear hown1 hgrow1
  refine hK.out _ _ (by first | assumption | exact KP.out _ HB0.out | exact KP.out _ HB1.out | exact KP.out _ HB2.out) (fun hHeld1 => ?_)
  clear hK K
  (try simp only [Act.put]); (try simp only [List.setIfInBounds_toArray]); (try simp only [List.set_cons_zero, List.set_cons_succ])
  refine wpAnyH_take (i := 14) (oi := _) (v := ?_) rfl (by kernel_rfl) (by kernel_rfl) (by kernel_rfl) (fun _ _ _ h => h) (Or.inl ⟨by rfl, ?_⟩) (by assumption) ?_
  rotate_left
  · (intro w0 hSw; (try dsimp only at hSw); (try simp only [List.getElem_toArray, List.getElem_cons_zero, List.getElem_cons_succ]); go_simp; try (with_reducible rfl))
  try simp only [Act.put, List.getElem_toArray, List.getElem_cons_zero, List.getElem_cons_succ, List.setIfInBounds_toArray, List.set_cons_zero, List.set_cons_succ]
  refine wpAnyH_ready (rs := [15]) (by kernel_rfl) (by simp) ?_
  refine AllReadyH.cons (o := _) rfl (fun K hK => ?_) AllReadyH.nil
  (try simp only [List.getElem_toArray, List.getElem_cons_zero, List.getElem_cons_succ])
  go_simp
  refine hK.out _ _ (by first | assumption | exact KP.out _ HB0.out | exact KP.out _ HB1.out | exact KP.out _ HB2.out) (fun hHeld2 => ?_)
  clear hK K
  (try simp only [Act.put]); (try simp only [List.setIfInBounds_toArray]); (try simp only [List.set_cons_zero, List.set_cons_succ])
  refine wpAnyH_take (i := 16) (oi := _) (v := ?_) rfl (by kernel_rfl) (by kernel_rfl) (by kernel_rfl) (fun _ _ _ h => h) (Or.inl ⟨by rfl, ?_⟩) (by assumption) ?_
  rotate_left
  · (intro w0 hSw; (try dsimp only at hSw); (try simp only [List.getElem_toArray, List.getElem_cons_zero, List.getElem_cons_succ]); go_simp; try (with_reducible rfl))
  try simp only [Act.put, List.getElem_toArray, List.getElem_cons_zero, List.getElem_cons_succ, List.setIfInBounds_toArray, List.set_cons_zero, List.set_cons_succ]
  refine wpAnyH_done (by kernel_rfl) ?_ _
  refine NoPanic.normal ?_
  go_upto_region 2 with fail
  have HXX : Hid (Blk (w1.alloc (.cells #[.pointer (some ⟨gb, 0, none⟩), .slice (some ⟨w.heap.size, 0, none⟩) ns ns, .slice none 0 0, .slice none 0 0, .slice none 0 0] 84)) w1.heap.size 84 _) := Blk.new w1 84 _
  have HSX : Hid (Blk (w1.alloc (.cells #[.pointer (some ⟨gb, 0, none⟩), .slice (some ⟨w.heap.size, 0, none⟩) ns ns, .slice none 0 0, .slice none 0 0, .slice none 0 0] 84)) w.heap.size 5 _) := HR1.out.below ((Below.refl _ _).alloc (Nat.le_refl _) _)
  generalize hX : World.alloc w1 _ = X
  rw [hX] at HXX HSX HB2
  obtain ⟨sb, hsb⟩ : ∃ s, s = w.heap.size := ⟨_, rfl⟩
  obtain ⟨mk, hmk⟩ : ∃ s, s = w1.heap.size := ⟨_, rfl⟩
  rw [← hsb] at HXX HSX hs1
  rw [← hmk] at HXX hs1
  rw [← hsb, ← hmk]
  have hsbw : w.heap.size ≤ sb := by omega
  have hmkw : w.heap.size ≤ mk := by omega
  have hmsb : mk ≠ sb := by omega
  have c1X : X.cell? ⟨mk, 1, none⟩ = some (.slice (some ⟨sb, 0, none⟩) ns ns) := HXX.out.cell (i := 1) rfl
  have cs1 : X.cell? ⟨sb, 1, none⟩ = some (.int .u8 0) := rep_cell HSX.out (by omega)
  have fs1 := HSX.out.frozen 1
  have h1I : (1 : Int) < (ns : Int) := by omega
  have h1N : 1 < ns := by omega
  have HSBE := hidden hsb
  have HMKE := hidden hmk
  clear hX HB1 HB0 HR1 hsb hmk hs1
  obtain ⟨V1, HV1E⟩ : ∃ v, Hid ((List.replicate ns false).set 1 true = v) := ⟨_, rfl⟩
  obtain ⟨nl, HNL⟩ : ∃ n : Nat, Hid (n = 2 + nw) := ⟨_, rfl⟩
  have hnl : nl ≤ 1002 := by have := HNL.out; omega
  have hnl0 : 2 ≤ nl := by have := HNL.out; omega
  have e5 : IntKind.i64.wrap (2 + (nw : Int)) = (nl : Int) := by rw [wrapI _ (by omega) (by omega), HNL.out]; omega
  have hmkb2 : ib.bytes * nl ≤ 281474976710656 := by rw [HBY.out]; omega
  have hmx2 : nl ≤ maxLen := by simp only [maxLen]; omega
  have q3 : w.cell? ⟨gb, 3, none⟩ = some (.int .i64 (nw : Int)) := by rw [← HNWE.out]; exact HBX.out.c3
  have HSP : Hid (StP w (X.setCell ⟨sb, 1, none⟩ (.int .u8 1)) mk gb sb ns nl V1 []) := by
    refine ⟨(But.set sb 1 X _).blk HXX.out hmsb, ?_, fun i g hg => by simp at hg, List.nodup_nil, HB2.out.trans ((But.set sb 1 X _).below (by omega) HB2.out.size), hmkw, by omega, hmsb⟩
    have h := HSX.out.set 1 (.int .u8 1)
    rw [List.setIfInBounds_toArray, show (Value.int .u8 1) = b8 true from rfl, ← List.map_set, HV1E.out] at h
    exact ⟨h.lt, h⟩
  go_wp2_with fail
  go_loopw [28] (fun i' w' => ∃ (k : Nat) (ls : List Nat), k ≤ 2 ∧ i' = .int .i64 k ∧ ls.length = k ∧ Hid (StP w w' mk gb sb ns nl V1 ls)) (fun i' _ => 2 - (intOf i').toNat)
  case atStart => exact ⟨0, [], by omega, rfl, rfl, HSP.out⟩
  case round =>
    obtain ⟨k, ls, hk, rfl, hkl, HPP⟩ := hrel
    by_cases hlt : k < 2
    · have hltI : (k : Int) < 2 := by omega
      have hkc : k = 0 ∨ k = 1 := by omega
      have e7 : IntKind.i64.wrap ((k : Int) + 1) = (k : Int) + 1 := wrapI _ (by omega) (by omega)
      have HC0 : Hid (Below w.heap.size w wr.drew) := Below.drew HPP.out.b
      have KP6 : Hid (∀ w', Below w.heap.size w w' → (fun w' => w'.cell? ⟨gb, 3, none⟩ = some (.int .i64 (nw : Int))) w') := fun w' hw' => (hw'.cell (p := ⟨gb, 3, none⟩) blt).trans q3
      have hmlt := HPP.out.m.lt
      have hslt := HPP.out.s.1
      go_upto_region 6 with fail
      refine wp_region_noPanic ?_
      refine wp_region_held_drew (S := (fun w' => w'.cell? ⟨gb, 3, none⟩ = some (.int .i64 (nw : Int)))) (by kernel_rfl) (by first | assumption | exact KP6.out _ HC0.out | exact KP6.out _ HC1.out | exact KP6.out _ HC2.out) (fun hHeld => ?_)
      refine wpAnyH_take (i := 0) (oi := _) (v := ?_) rfl (by kernel_rfl) (by kernel_rfl) (by kernel_rfl) (fun _ _ _ h => h) (Or.inl ⟨by rfl, ?_⟩) (by assumption) ?_
      rotate_left
      · (intro w0 hSw; (try dsimp only at hSw); (try simp only [List.getElem_toArray, List.getElem_cons_zero]); go_simp; try (with_reducible rfl))
      try simp only [Act.put, List.getElem_toArray, List.getElem_cons_zero, List.setIfInBounds_toArray, List.set_cons_zero, List.set_cons_succ]
      refine wpAnyH_take (i := 1) (oi := _) (v := ?_) rfl (by kernel_rfl) (by kernel_rfl) (by kernel_rfl) (fun _ _ _ h => h) (Or.inl ⟨by rfl, ?_⟩) (by assumption) ?_
      rotate_left
      · (intro w0 hSw; (try dsimp only at hSw); (try simp only [List.getElem_toArray, List.getElem_cons_zero, List.getElem_cons_succ]); go_simp; try (with_reducible rfl))
      try simp only [Act.put, List.getElem_toArray, List.getElem_cons_zero, List.getElem_cons_succ, List.setIfInBounds_toArray, List.set_cons_zero, List.set_cons_succ]
      refine wpAnyH_take (i := 2) (oi := _) (v := ?_) rfl (by kernel_rfl) (by kernel_rfl) (by kernel_rfl) (fun _ _ _ h => h) (Or.inl ⟨by rfl, ?_⟩) (by assumption) ?_
      rotate_left
      · (intro w0 hSw; (try dsimp only at hSw); (try simp only [List.getElem_toArray, List.getElem_cons_zero, List.getElem_cons_succ]); go_simp; try (with_reducible rfl))
      try simp only [Act.put, List.getElem_toArray, List.getElem_cons_zero, List.getElem_cons_succ, List.setIfInBounds_toArray, List.set_cons_zero, List.set_cons_succ]
      refine wpAnyH_take (i := 3) (oi := _) (v := ?_) rfl (by kernel_rfl) (by kernel_rfl) (by kernel_rfl) (fun _ _ _ h => h) (Or.inl ⟨by rfl, ?_⟩) (by assumption) ?_
      rotate_left
      · (intro w0 hSw; (try dsimp only at hSw); (try simp only [List.getElem_toArray, List.getElem_cons_zero, List.getElem_cons_succ]); go_simp; try (with_reducible rfl))
      try simp only [Act.put, List.getElem_toArray, List.getElem_cons_zero, List.getElem_cons_succ, List.setIfInBounds_toArray, List.set_cons_zero, List.set_cons_succ]
      refine wpAnyH_take (i := 4) (oi := _) (v := ?_) rfl (by kernel_rfl) (by kernel_rfl) (by kernel_rfl) (fun _ _ _ h => h) (Or.inl ⟨by rfl, ?_⟩) (by assumption) ?_
      rotate_left
      · (intro w0 hSw; (try dsimp only at hSw); (try simp only [List.getElem_toArray, List.getElem_cons_zero, List.getElem_cons_succ]); go_simp; try (with_reducible rfl))
      try simp only [Act.put, List.getElem_toArray, List.getElem_cons_zero, List.getElem_cons_succ, List.setIfInBounds_toArray, List.set_cons_zero, List.set_cons_succ]
      refine wpAnyH_take (i := 5) (oi := _) (v := ?_) rfl (by kernel_rfl) (by kernel_rfl) (by kernel_rfl) (fun _ _ _ h => h) (Or.inl ⟨by rfl, ?_⟩) (by assumption) ?_
      rotate_left
      · (intro w0 hSw; (try dsimp only at hSw); (try simp only [List.getElem_toArray, List.getElem_cons_zero, List.getElem_cons_succ]); go_simp; try (with_reducible rfl))
      try simp only [Act.put, List.getElem_toArray, List.getElem_cons_zero, List.getElem_cons_succ, List.setIfInBounds_toArray, List.set_cons_zero, List.set_cons_succ]
      refine wpAnyH_take (i := 6) (oi := _) (v := ?_) rfl (by kernel_rfl) (by kernel_rfl) (by kernel_rfl) (fun _ _ _ h => h) (Or.inl ⟨by rfl, ?_⟩) (by assumption) ?_
      rotate_left
      · (intro w0 hSw; (try dsimp only at hSw); (try simp only [List.getElem_toArray, List.getElem_cons_zero, List.getElem_cons_succ]); go_simp; try (with_reducible rfl))
      try simp only [Act.put, List.getElem_toArray, List.getElem_cons_zero, List.getElem_cons_succ, List.setIfInBounds_toArray, List.set_cons_zero, List.set_cons_succ]
      refine wpAnyH_take (i := 7) (oi := _) (v := ?_) rfl (by kernel_rfl) (by kernel_rfl) (by kernel_rfl) (fun _ _ _ h => h) (Or.inl ⟨by rfl, ?_⟩) (by assumption) ?_
      rotate_left
      · (intro w0 hSw; (try dsimp only at hSw); (try simp only [List.getElem_toArray, List.getElem_cons_zero, List.getElem_cons_succ]); go_simp; try (with_reducible rfl))
      try simp only [Act.put, List.getElem_toArray, List.getElem_cons_zero, List.getElem_cons_succ, List.setIfInBounds_toArray, List.set_cons_zero, List.set_cons_succ]
      refine wpAnyH_take (i := 9) (oi := _) (v := ?_) rfl (by kernel_rfl) (by kernel_rfl) (by kernel_rfl) (fun _ _ _ h => h) (Or.inl ⟨by rfl, ?_⟩) (by assumption) ?_
      rotate_left
      · (intro w0 hSw; (try dsimp only at hSw); (try simp only [List.getElem_toArray, List.getElem_cons_zero, List.getElem_cons_succ]); go_simp; try (with_reducible rfl))
      try simp only [Act.put, List.getElem_toArray, List.getElem_cons_zero, List.getElem_cons_succ, List.setIfInBounds_toArray, List.set_cons_zero, List.set_cons_succ]
      refine wpAnyH_take (i := 10) (oi := _) (v := ?_) rfl (by kernel_rfl) (by kernel_rfl) (by kernel_rfl) (fun _ _ _ h => h) (Or.inl ⟨by rfl, ?_⟩) (by assumption) ?_
      rotate_left
      · (intro w0 hSw; (try dsimp only at hSw); (try simp only [List.getElem_toArray, List.getElem_cons_zero, List.getElem_cons_succ]); go_simp; try (with_reducible rfl))
      try simp only [Act.put, List.getElem_toArray, List.getElem_cons_zero, List.getElem_cons_succ, List.setIfInBounds_toArray, List.set_cons_zero, List.set_cons_succ]
      refine wpAnyH_ready (rs := [8]) (by kernel_rfl) (by simp) ?_
      refine AllReadyH.cons (o := _) rfl (fun K hK => ?_) AllReadyH.nil
      refine step_make_full rfl (.tmp 38) (.tmp 38) 22 rfl w.heap.size 5 ib _ 1 Tryd.underlying22 HI.out HZ.out HS.out .i64 .i64 (nl : Int) (nl : Int) nl rfl rfl rfl rfl hmkb2 hmx2 (by show w.heap.size ≤ wr.heap.size; exact HPP.out.b.size) ?_
      intro v1 hown1 hgrow1
      have HV1 : Hid (Below wr.heap.size wr v1) := by have := none_below hgrow1; exact ⟨this.os, this.tape, this.output, this.size, this.block⟩
      have HC1 : Hid (Below w.heap.size w v1) := HPP.out.b.trans (HV1.out.mono HPP.out.b.size)
      have HR2 : Hid (Blk v1 wr.heap.size 5 ((List.replicate nl false).map b8).toArray) := row_of_madeC hown1
      have hs2 := (hown1.lt wr.heap.size rfl).2
      have HM1 := hidden (HPP.out.m.below HV1.out)
      have hold : ∃ old, v1.cell? ⟨mk, 2 + k, none⟩ = some old := by
        rcases hkc with rfl | rfl
        · exact ⟨_, HM1.out.cell (i := 2) rfl⟩
        · exact ⟨_, HM1.out.cell (i := 3) rfl⟩
      obtain ⟨old, hold⟩ := hold
      have hfz := HM1.out.frozen (2 + k)
      have HC2 : Hid (Below w.heap.size w (v1.setCell ⟨mk, 2 + k, none⟩ (.slice (some ⟨wr.heap.size, 0, none⟩) nl nl))) := HC1.out.trans ((But.set mk (2 + k) v1 _).below hmkw HC1.out.size)
      clear hown1 hgrow1
      refine hK.out _ _ (by first | assumption | exact KP6.out _ HC0.out | exact KP6.out _ HC1.out | exact KP6.out _ HC2.out) (fun hHeld1 => ?_)
      clear hK K
      (try simp only [Act.put]); (try simp only [List.setIfInBounds_toArray]); (try simp only [List.set_cons_zero, List.set_cons_succ])
      refine wpAnyH_take (i := 11) (oi := _) (v := ?_) rfl (by kernel_rfl) (by kernel_rfl) (by kernel_rfl) (fun _ _ _ h => h) (Or.inl ⟨by rfl, ?_⟩) (by assumption) ?_
      rotate_left
      · (intro w0 hSw; (try dsimp only at hSw); (try simp only [List.getElem_toArray, List.getElem_cons_zero, List.getElem_cons_succ]); go_simp; try (with_reducible rfl))
      try simp only [Act.put, List.getElem_toArray, List.getElem_cons_zero, List.getElem_cons_succ, List.setIfInBounds_toArray, List.set_cons_zero, List.set_cons_succ]
      refine wpAnyH_ready (rs := [12]) (by kernel_rfl) (by simp) ?_
      refine AllReadyH.cons (o := _) rfl (fun K hK => ?_) AllReadyH.nil
      (try simp only [List.getElem_toArray, List.getElem_cons_zero, List.getElem_cons_succ])
      go_simp
      refine hK.out _ _ (by first | assumption | exact KP6.out _ HC0.out | exact KP6.out _ HC1.out | exact KP6.out _ HC2.out) (fun hHeld3 => ?_)
      clear hK K
      (try simp only [Act.put]); (try simp only [List.setIfInBounds_toArray]); (try simp only [List.set_cons_zero, List.set_cons_succ])
      refine wpAnyH_done (by kernel_rfl) ?_ _
      refine NoPanic.normal ?_
      generalize hZ : World.setCell v1 _ _ = Z
      obtain ⟨g, hg⟩ : ∃ g, g = wr.heap.size := ⟨_, rfl⟩
      rw [← hg]
      rw [← hg] at hs2 HR2 hZ
      have hgm : g ≠ mk := by omega
      have hgsb : g ≠ sb := by omega
      have hgw : w.heap.size ≤ g := by have := HPP.out.b.size; omega
      have HGE := hidden hg
      have HZB : Hid (But mk v1 Z) := by rw [← hZ]; exact But.set _ _ _ _
      have HZM : Hid (Blk Z mk 84 (stA gb sb ns nl (ls ++ [g]))) := by
        have h := HM1.out.set (2 + k) (.slice (some ⟨g, 0, none⟩) nl nl)
        rw [hZ, stA_set hkl hkc] at h
        exact h
      have HZG : Hid (Blk Z g 5 ((List.replicate nl false).map b8).toArray) := HZB.out.blk HR2.out hgm
      have cl : Z.cell? ⟨mk, 2 + k, none⟩ = some (.slice (some ⟨g, 0, none⟩) nl nl) := by rw [← hZ]; exact (HM1.out.set (2 + k) _).cell (by rcases hkc with rfl | rfl <;> rfl)
      have c1 : Z.cell? ⟨g, 1, none⟩ = some (.int .u8 0) := rep_cell HZG.out (by omega)
      have f1 := HZG.out.frozen 1
      have hnl1 : (1 : Int) < (nl : Int) := by omega
      have hnl2 : 1 < nl := by omega
      have HZB2 : Hid (But g Z (Z.setCell ⟨g, 1, none⟩ (.int .u8 1))) := But.set _ _ _ _
      have hkeep : ∀ (x : Nat) (vs : List Bool), BRow wr x vs → x ≠ mk → BRow (Z.setCell ⟨g, 1, none⟩ (.int .u8 1)) x vs := by
        intro x vs hb hxm
        have hxg : x ≠ g := by have := hb.1; omega
        exact ((hb.to hb.1 HV1.out).but HZB.out hxm).but HZB2.out hxg
      have HNP : Hid (StP w (Z.setCell ⟨g, 1, none⟩ (.int .u8 1)) mk gb sb ns nl V1 (ls ++ [g])) := by
        refine ⟨HZB2.out.blk HZM.out (Ne.symm hgm), hkeep _ _ HPP.out.s (Ne.symm hmsb), ?_, ?_, ?_, hmkw, hsbw, hmsb⟩
        · intro i x hx
          rcases Nat.lt_or_ge i ls.length with hh | hh
          · rw [List.getElem?_append_left hh] at hx
            obtain ⟨a1, a2, a3, a4⟩ := HPP.out.l i x hx
            exact ⟨hkeep _ _ a1 a3, a2, a3, a4⟩
          · rw [List.getElem?_append_right hh] at hx
            have hx' : g = x := by
              cases hq : i - ls.length with
              | zero => rw [hq] at hx; simpa using hx
              | succ n => rw [hq] at hx; simp at hx
            subst hx'
            have h := HZG.out.set 1 (.int .u8 1)
            rw [List.setIfInBounds_toArray, show (Value.int .u8 1) = b8 true from rfl, ← List.map_set] at h
            exact ⟨⟨h.lt, h⟩, hgsb, hgm, hgw⟩
        · rw [List.nodup_append]
          refine ⟨HPP.out.nd, by simp, ?_⟩
          intro x hx y hy e
          obtain ⟨i, hi⟩ := List.getElem?_of_mem hx
          have h1 := (HPP.out.l i x hi).1.1
          simp at hy
          omega
        · have h2 : Below w.heap.size w Z := HC1.out.trans (HZB.out.below hmkw HC1.out.size)
          exact h2.trans (HZB2.out.below hgw h2.size)
      clear hZ hg hs2
      go_wp2
      go_roundw
      case measure => simp [intOf]; omega
      case rel => exact ⟨k + 1, ls ++ [g], by omega, by simp, by simp [hkl], HNP.out⟩
    · have hge : ¬ ((k : Int) < 2) := by omega
      have hk2 : k = 2 := by omega
      subst hk2
      obtain ⟨g0, g1, rfl⟩ : ∃ g0 g1, ls = [g0, g1] := by
        match ls, hkl with
        | [a, b], _ => exact ⟨a, b, rfl⟩
      obtain ⟨Y, rfl⟩ : ∃ Y, Y = wr := ⟨_, rfl⟩
      have q6 : Y.cell? ⟨gb, 6, none⟩ = some (.slice S.a2 nr S.c2) := by
        have h := (HPP.out.b.cell (p := ⟨gb, 6, none⟩) blt).trans HBX.out.c6
        rw [HL.out, HNR.out] at h
        exact h
      have hgsb : gb ≠ sb := by omega
      have RG : Hid (∀ w', But sb Y w' → Calls Tryd.prog 33 #[.pointer (some ⟨mk, 0, none⟩)] w' fun e w'' => (∃ dp dc, e = .returned (.slice dp nr dc) ∧ (0 < nr → dp = some ⟨sb, lo, none⟩)) ∧ ∃ q, w'' = w'.drewN q) := by
        intro w' hw'
        rw [HLO.out]
        exact registersC_any w' mk gb sb ni nr (hw'.cell (HPP.out.m.cell (i := 0) rfl) hmsb) (hw'.cell (by rw [← HNS.out]; exact HPP.out.m.cell (i := 1) rfl) hmsb) (hw'.cell ((HPP.out.b.cell (p := ⟨gb, 0, none⟩) blt).trans q0) hgsb) hn0 hn1
      obtain ⟨P, HPE⟩ : ∃ P, Hid ([false, true] ++ List.replicate ni false = P) := ⟨_, rfl⟩
      obtain ⟨D, HDE⟩ : ∃ D, Hid (List.replicate nr false = D) := ⟨_, rfl⟩
      have HPL : Hid (P.length = lo) := by show _ = _; rw [← HPE.out, HLO.out]; simp; omega
      have HDL : Hid (D.length = nr) := by show _ = _; rw [← HDE.out]; simp
      have HVPD : Hid (V1 = P ++ D) := by
        show _ = _
        rw [← HV1E.out, ← HPE.out, ← HDE.out, HNS.out, show 2 + ni + nr = (ni + nr) + 2 by omega, List.append_assoc, List.replicate_append_replicate]
        rfl
      have HY0 : Hid (Blk Y sb 5 ((P ++ ((l.take 0).map RgD.init ++ D.drop 0)).map b8).toArray) := by
        have h := HPP.out.s.2
        rw [HVPD.out] at h
        show Blk _ _ _ _
        rw [List.take_zero, List.map_nil, List.nil_append, List.drop_zero]
        exact h
      have hlo : lo ≤ 1002 := by have := HLO.out; omega
      go_wp2_with fail
      go_loopw [56] (fun i' w' => ∃ (j : Nat), j ≤ nr ∧ i' = .int .i64 j ∧ Hid (Blk w' sb 5 ((P ++ ((l.take j).map RgD.init ++ D.drop j)).map b8).toArray) ∧ Hid (But sb Y w')) (fun i' _ => nr - (intOf i').toNat)
      case atStart => exact ⟨0, Nat.zero_le _, rfl, HY0.out, But.refl _ _⟩
      case round =>
        obtain ⟨j, hj, rfl, HO, HG⟩ := hrel
        by_cases hlj : j < nr
        · obtain ⟨z, hz⟩ := getElem_lt (show j < l.length by rw [HNR.out]; exact hlj)
          obtain ⟨ob, oo, ea, hob, hoc⟩ := HRG.out.el hz
          have hoY : ∀ (i : Nat) (v : Value), w.cell? ⟨ob, i, none⟩ = some v → wr.cell? ⟨ob, i, none⟩ = some v := fun i v hv => HG.out.cell ((HPP.out.b.cell (p := ⟨ob, i, none⟩) hob).trans hv) (by show ob ≠ sb; omega)
          have co0 : wr.cell? ⟨ob, oo + j * 2, none⟩ = some (.int .i64 z.sel) := hoY _ _ (hoc 0 _ rfl)
          have co1 : wr.cell? ⟨ob, oo + j * 2 + 1, none⟩ = some (.bool z.init) := hoY _ _ (hoc 1 _ rfl)
          obtain ⟨zs, zi⟩ := z
          dsimp only at co0 co1
          have HZE := hidden hz
          have hljI : (j : Int) < (nr : Int) := by omega
          have e3 : IntKind.i64.wrap ((j : Int) + 1) = (j : Int) + 1 := wrapI _ (by omega) (by omega)
          have VO : Hid (∀ v, Calls Tryd.prog 32 #[.bool zi] v fun e w' => e = .returned (.int .u8 ((bN zi : Nat) : Int)) ∧ w' = v) := fun v => valueOf_any v zi
          have hslt2 := HO.out.lt
          have hne : wr.heap.size ≠ sb := by omega
          rw [ea]
          clear hoc hoY ea hz
          go_upto_region 12 with fail
          generalize hX : World.alloc wr _ = X
          have HBX2 : Hid (Below wr.heap.size wr X) := by rw [← hX]; exact (Below.refl _ _).alloc (Nat.le_refl _) _
          have HBUX : Hid (But sb Y X) := HG.out.trans (Below.but HBX2.out)
          have HOX2 := hidden (HO.out.below HBX2.out)
          have cz : X.cell? ⟨wr.heap.size, 1, none⟩ = some (.bool zi) := by rw [← hX]; simp
          obtain ⟨rs, hrs⟩ : ∃ r, r = wr.heap.size := ⟨_, rfl⟩
          rw [← hrs] at cz hne ⊢
          have HD0 : Hid (But sb X X.drew) := (But.refl sb X).drewN 1
          have KP12 : Hid (∀ w', But sb X w' → (fun w' => w'.cell? ⟨rs, 1, none⟩ = some (.bool zi)) w') := fun w' hw' => hw'.cell cz hne
          clear hX hrs HBX2 co0 co1 cz
          refine wp_region_noPanic ?_
          refine wp_region_held_drew (S := (fun w' => w'.cell? ⟨rs, 1, none⟩ = some (.bool zi))) (by kernel_rfl) (by first | assumption | exact KP12.out _ HD0.out | exact KP12.out _ HD1.out | exact KP12.out _ HD2.out) (fun hHeld => ?_)
          refine wpAnyH_take (i := 0) (oi := _) (v := ?_) rfl (by kernel_rfl) (by kernel_rfl) (by kernel_rfl) (fun _ _ _ h => h) (Or.inl ⟨by rfl, ?_⟩) (by assumption) ?_
          rotate_left
          · (intro w0 hSw; (try dsimp only at hSw); (try simp only [List.getElem_toArray, List.getElem_cons_zero]); go_simp; try (with_reducible rfl))
          try simp only [Act.put, List.getElem_toArray, List.getElem_cons_zero, List.setIfInBounds_toArray, List.set_cons_zero, List.set_cons_succ]
          refine wpAnyH_take (i := 2) (oi := _) (v := ?_) rfl (by kernel_rfl) (by kernel_rfl) (by kernel_rfl) (fun _ _ _ h => h) (Or.inl ⟨by rfl, ?_⟩) (by assumption) ?_
          rotate_left
          · (intro w0 hSw; (try dsimp only at hSw); (try simp only [List.getElem_toArray, List.getElem_cons_zero, List.getElem_cons_succ]); go_simp; try (with_reducible rfl))
          try simp only [Act.put, List.getElem_toArray, List.getElem_cons_zero, List.getElem_cons_succ, List.setIfInBounds_toArray, List.set_cons_zero, List.set_cons_succ]
          refine wpAnyH_take (i := 3) (oi := _) (v := ?_) rfl (by kernel_rfl) (by kernel_rfl) (by kernel_rfl) (fun _ _ _ h => h) (Or.inl ⟨by rfl, ?_⟩) (by assumption) ?_
          rotate_left
          · (intro w0 hSw; (try dsimp only at hSw); (try simp only [List.getElem_toArray, List.getElem_cons_zero, List.getElem_cons_succ]); go_simp; try (with_reducible rfl))
          try simp only [Act.put, List.getElem_toArray, List.getElem_cons_zero, List.getElem_cons_succ, List.setIfInBounds_toArray, List.set_cons_zero, List.set_cons_succ]
          refine wpAnyH_take (i := 4) (oi := _) (v := ?_) rfl (by kernel_rfl) (by kernel_rfl) (by kernel_rfl) (fun _ _ _ h => h) (Or.inl ⟨by rfl, ?_⟩) (by assumption) ?_
          rotate_left
          · (intro w0 hSw; (try dsimp only at hSw); (try simp only [List.getElem_toArray, List.getElem_cons_zero, List.getElem_cons_succ]); go_simp; try (with_reducible rfl))
          try simp only [Act.put, List.getElem_toArray, List.getElem_cons_zero, List.getElem_cons_succ, List.setIfInBounds_toArray, List.set_cons_zero, List.set_cons_succ]
          refine wpAnyH_ready (rs := [1]) (by kernel_rfl) (by simp) ?_
          refine AllReadyH.cons (o := _) rfl (fun K hK => ?_) AllReadyH.nil
          (try simp only [List.getElem_toArray, List.getElem_cons_zero, List.getElem_cons_succ])
          go_simp
          go_at_call 33
          refine (RG.out _ (HBUX.out.trans HD0.out)).mono ?_
          rintro e v ⟨⟨dp, dc, rfl, hdp⟩, q, hv⟩
          have hdp' := hdp (by omega)
          subst hdp'
          have HD1 : Hid (But sb X v) := by rw [hv]; exact HD0.out.drewN q
          have HVB : Hid (Blk v sb 5 ((P ++ ((l.take j).map RgD.init ++ D.drop j)).map b8).toArray) := by rw [hv]; exact HOX2.out
          have hold : ∃ old, v.cell? ⟨sb, lo + j, none⟩ = some old := by
            have hL : lo + j < ((P ++ ((l.take j).map RgD.init ++ D.drop j)).map b8).length := by
              have h1 := HPL.out
              have h2 := HDL.out
              have h3 := HNR.out
              rw [List.length_map, List.length_append, List.length_append, List.length_map, List.length_take, List.length_drop]
              omega
            exact ⟨_, HVB.out.cell (by rw [List.getElem?_toArray]; exact List.getElem?_eq_getElem hL)⟩
          obtain ⟨old, hold⟩ := hold
          have hfz := HVB.out.frozen (lo + j)
          have HNX : Hid (Blk (v.setCell ⟨sb, lo + j, none⟩ (.int .u8 ((bN zi : Nat) : Int))) sb 5 ((P ++ ((l.take (j + 1)).map RgD.init ++ D.drop (j + 1))).map b8).toArray) := by
            have h := HVB.out.set (lo + j) (b8 zi)
            rw [set_nextC _ _ _ j lo zi HPL.out (by rw [List.length_map, List.length_take, HNR.out]; omega) (by rw [HDL.out]; exact hlj)] at h
            rw [take_next _ j _ HZE.out]
            show Blk _ _ _ _
            have e10 : (l.take j ++ [(⟨zs, zi⟩ : RgD)]).map RgD.init = (l.take j).map RgD.init ++ [zi] := by rw [List.map_append]; rfl
            rw [e10]
            exact h
          have HD2 : Hid (But sb X (v.setCell ⟨sb, lo + j, none⟩ (.int .u8 ((bN zi : Nat) : Int)))) := HD1.out.trans (But.set _ _ _ _)
          clear hdp hv
          go_wp2_with fail
          refine hK.out _ _ (by first | assumption | exact KP12.out _ HD0.out | exact KP12.out _ HD1.out | exact KP12.out _ HD2.out) (fun hHeld1 => ?_)
          clear hK K
          (try simp only [Act.put]); (try simp only [List.setIfInBounds_toArray]); (try simp only [List.set_cons_zero, List.set_cons_succ])
          refine wpAnyH_ready (rs := [5]) (by kernel_rfl) (by simp) ?_
          refine AllReadyH.cons (o := _) rfl (fun K hK => ?_) AllReadyH.nil
          (try simp only [List.getElem_toArray, List.getElem_cons_zero, List.getElem_cons_succ])
          go_simp
          go_at_call 32
          refine (VO.out v).mono ?_
          rintro e v' ⟨rfl, rfl⟩
          go_wp2_with fail
          refine hK.out _ _ (by first | assumption | exact KP12.out _ HD0.out | exact KP12.out _ HD1.out | exact KP12.out _ HD2.out) (fun hHeld2 => ?_)
          clear hK K
          (try simp only [Act.put]); (try simp only [List.setIfInBounds_toArray]); (try simp only [List.set_cons_zero, List.set_cons_succ])
          refine wpAnyH_take (i := 6) (oi := _) (v := ?_) rfl (by kernel_rfl) (by kernel_rfl) (by kernel_rfl) (fun _ _ _ h => h) (Or.inl ⟨by rfl, ?_⟩) (by assumption) ?_
          rotate_left
          · (intro w0 hSw; (try dsimp only at hSw); (try simp only [List.getElem_toArray, List.getElem_cons_zero, List.getElem_cons_succ]); go_simp; try (with_reducible rfl))
          try simp only [Act.put, List.getElem_toArray, List.getElem_cons_zero, List.getElem_cons_succ, List.setIfInBounds_toArray, List.set_cons_zero, List.set_cons_succ]
          refine wpAnyH_ready (rs := [7]) (by kernel_rfl) (by simp) ?_
          refine AllReadyH.cons (o := _) rfl (fun K hK => ?_) AllReadyH.nil
          (try simp only [List.getElem_toArray, List.getElem_cons_zero, List.getElem_cons_succ])
          go_simp
          refine hK.out _ _ (by first | assumption | exact KP12.out _ HD0.out | exact KP12.out _ HD1.out | exact KP12.out _ HD2.out) (fun hHeld3 => ?_)
          clear hK K
          (try simp only [Act.put]); (try simp only [List.setIfInBounds_toArray]); (try simp only [List.set_cons_zero, List.set_cons_succ])
          refine wpAnyH_done (by kernel_rfl) ?_ _
          refine NoPanic.normal ?_
          go_wp2_with fail
          go_roundw
          case measure => simp [intOf]; omega
          case rel => exact ⟨j + 1, by omega, by simp, HNX.out, HBUX.out.trans HD2.out⟩
        · have hge2 : ¬ ((j : Int) < (nr : Int)) := by omega
          have HFS : Hid (BRow wr sb ([false, true] ++ (List.replicate ni false ++ l.map RgD.init))) := by
            have h := HO.out
            rw [List.take_of_length_le (by have := HNR.out; omega), List.drop_eq_nil_of_le (by have := HDL.out; omega), List.append_nil, ← HPE.out, List.append_assoc] at h
            exact ⟨h.lt, h⟩
          have hll : (List.replicate nl false).set 1 true = [false, true] ++ List.replicate nw false := by
            rw [HNL.out, show 2 + nw = nw + 2 by omega]
            rfl
          obtain ⟨p0, p1, p2, p3⟩ := HPP.out.l 0 g0 rfl
          obtain ⟨r0, r1, r2, r3⟩ := HPP.out.l 1 g1 rfl
          rw [hll] at p0 r0
          have hgg : g0 ≠ g1 := by have := HPP.out.nd; simp at this; exact this
          have HFIN : Hid (Blk wr mk 84 (machA gb sb g0 g1 ns (2 + nw) (2 + nw) (.slice none 0 0)) ∧ BRow wr sb ([false, true] ++ (List.replicate ni false ++ l.map RgD.init)) ∧ BRow wr g0 ([false, true] ++ List.replicate nw false) ∧ BRow wr g1 ([false, true] ++ List.replicate nw false) ∧
              (mk ≠ sb ∧ g0 ≠ sb ∧ g1 ≠ sb ∧ g0 ≠ g1 ∧ mk ≠ g0 ∧ mk ≠ g1) ∧ (w.heap.size ≤ mk ∧ w.heap.size ≤ sb ∧ w.heap.size ≤ g0 ∧ w.heap.size ≤ g1) ∧ Below w.heap.size w wr) := by
            refine ⟨?_, HFS.out, p0.but HG.out p1, r0.but HG.out r1, ⟨hmsb, p1, r1, hgg, Ne.symm p2, Ne.symm r2⟩, ⟨hmkw, hsbw, p3, r3⟩, HPP.out.b.trans (HG.out.below hsbw HPP.out.b.size)⟩
            have h := HG.out.blk HPP.out.m hmsb
            rw [← HNL.out]
            exact h
          clear HO hll p0 r0 p1 p2 p3 r1 r2 r3 hgg
          go_wp2
          go_ret
          exact ⟨mk, sb, g0, g1, rfl, HFIN.out⟩

end Go.Proofs.YtjbnejjjbdalaaaDoor
