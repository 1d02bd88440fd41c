import Derived.Test.YtlkhmcajedjojaaJ35
namespace Go.Proofs.Ytlkhmcajedjojaa
open Go.RowKit

theorem sees_alloc2 {W a : World} (h : Below W.heap.size W a ∧ (∀ b' o, b' < W.heap.size → a.cell? ⟨b', o, none⟩ = W.cell? ⟨b', o, none⟩)) (o : Obj) : Below W.heap.size W (a.alloc o) ∧ (∀ b' q, b' < W.heap.size → (a.alloc o).cell? ⟨b', q, none⟩ = W.cell? ⟨b', q, none⟩) := sees_of (h.1.alloc h.1.size o)
theorem row_of_own {w : World} {C e n g : Nat} {xs : List Value} (h : w.ownsRow C e 1 (.slice (some ⟨g, 0, none⟩) n n) n xs) : w.heap[g]? = some (.cells xs.toArray e (0, 0)) := by
  rcases h.2 with ⟨h', _⟩ | ⟨g', cap', cur, h', _, hh, _, _, hcs, htake⟩
  · simp at h'
  · simp only [Value.slice.injEq, Option.some.injEq, Addr.mk.injEq, and_true, true_and] at h'
    obtain ⟨rfl, rfl⟩ := h'
    rw [hh]
    rw [List.take_of_length_le (by rw [Array.length_toList, hcs]; exact Nat.le_refl _)] at htake
    rw [← htake]
theorem base_le {W a : World} (h : Below W.heap.size W a ∧ (∀ b' o, b' < W.heap.size → a.cell? ⟨b', o, none⟩ = W.cell? ⟨b', o, none⟩)) : W.heap.size ≤ a.heap.size := h.1.size
theorem made_nil (n : Nat) : (madeCells (Value.slice none 0 0).cells (n * 1)).toList = List.replicate n (.slice none 0 0) := by
  rw [Nat.mul_one]
  apply List.ext_getElem?
  intro i
  by_cases h : i < n
  · simp [madeCells, Value.cells, h, Nat.mod_one]
  · simp [madeCells, Value.cells, h]
theorem own_made0 {w : World} {C n : Nat} {v : Value} (h : w.ownsRow C 33 1 v n (madeCells (Value.int .u64 0).cells (n * 1)).toList) : w.ownsRow C 33 1 v n ((List.replicate n 0).map uV) := by rwa [made_zero] at h
theorem own_madeN {w : World} {C n : Nat} {v : Value} (h : w.ownsRow C 34 1 v n (madeCells (Value.slice none 0 0).cells (n * 1)).toList) : w.ownsRow C 34 1 v n (List.replicate n (.slice none 0 0)) := by rwa [made_nil] at h
theorem step_make_full {P : Program} {ops : Array Oper} {o : Oper} {a : Act} {w : World} {K : Act → World → Prop} {Q : Exit → Act → World → Prop} {E : Prop} (hg : o.guard = none) (l c : Operand) (t : TypeId) (hop : o.op = Op.makeSlice t l c)
    (base : Nat) (e : TypeId) (i : TypeInfo) (z : Value) (size : Nat) (h1 : P.underlying t = some (.slice e)) (h2 : P.info? e = some i) (h3 : i.zero = some z) (h4 : i.size = size)
    (kl kc : IntKind) (L C : Int) (n : Nat) (hl : a.eval l = .int kl L) (hc : a.eval c = .int kc C) (hL : L = (n : Int)) (hC : C = (n : Int)) (b2 : i.bytes * n ≤ 281474976710656) (b3 : n ≤ maxLen) (b4 : base ≤ w.heap.size)
    (h : ∀ w', w'.ownsRow base e size (.slice (some ⟨w.heap.size, 0, none⟩) n n) n (madeCells z.cells (n * size)).toList → w.grownBy w' none → K (a.put o.dst (.slice (some ⟨w.heap.size, 0, none⟩) n n)) w') :
    if Region.wanted o (yielded ops a.tmps) = true then Oper.wp P o a w K Q else E := by
  have hw : Region.wanted o (yielded ops a.tmps) = true := by simp [Region.wanted, hg]
  rw [if_pos hw]
  obtain ⟨w', hrun, r1, r2⟩ := run_make_full (P := P) w base t e i z size h1 h2 h3 h4 kl kc n b2 b3 b4
  subst hL
  subst hC
  unfold Oper.wp
  simp [execOp, hop, hl, hc, hrun, Result.andThen]
  exact h w' r1 r2
theorem region_mid {P : Program} {id : Nat} {ops : Array Oper} {b : Bool} {Q : Exit → Act → World → Prop} {a : Act} {w : World} (Pr : Act → World → Prop) (h1 : (Code.region id ops b).wp P (fun e a' w' => e = .normal ∧ Pr a' w') a w) (h2 : ∀ a' w', Pr a' w' → Q .normal a' w') : (Code.region id ops b).wp P Q a w :=
  Code.wp_mono (fun e a' w' h => by obtain ⟨rfl, h⟩ := h; exact h2 a' w' h) h1

/-- three rows that were made, and a box of them -/
structure Made (w w' : World) (mk nbk vb rg wb : Nat) (N : NetD) : Prop where
  v : w'.ownsRow w.heap.size 33 1 (.slice (some ⟨vb, 0, none⟩) N.nodes.length N.nodes.length) N.nodes.length ((List.replicate N.nodes.length 0).map uV)
  r : w'.ownsRow w.heap.size 33 1 (.slice (some ⟨rg, 0, none⟩) N.regs.length N.regs.length) N.regs.length ((List.replicate N.regs.length 0).map uV)
  m : w'.ownsRow w.heap.size 34 1 (.slice (some ⟨wb, 0, none⟩) N.mems.length N.mems.length) N.mems.length (List.replicate N.mems.length (.slice none 0 0))
  c0 : w'.cell? ⟨mk, 0, none⟩ = some (.pointer (some ⟨nbk, 0, none⟩))
  c1 : w'.cell? ⟨mk, 1, none⟩ = some (.slice (some ⟨vb, 0, none⟩) N.nodes.length N.nodes.length)
  c2 : w'.cell? ⟨mk, 2, none⟩ = some (.slice (some ⟨rg, 0, none⟩) N.regs.length N.regs.length)
  c3 : w'.cell? ⟨mk, 3, none⟩ = some (.slice (some ⟨wb, 0, none⟩) N.mems.length N.mems.length)
  lt : mk < w'.heap.size
  a1 : vb ≠ rg
  a2 : vb ≠ wb
  a3 : rg ≠ wb
  a4 : vb < mk
  a5 : rg < mk
  a6 : wb < mk
  b : Below w.heap.size w w'

set_option maxRecDepth 100000 in
set_option maxHeartbeats 8000000 in
theorem start_any (B : Nat) (w : World) (S : NetS) (N : NetD) (hat : NetAt B w S N) (hB : B ≤ w.heap.size) (nbk : Nat) (blt : nbk < w.heap.size) (hbox : ∀ j, w.cell? ⟨nbk, j, none⟩ = (NetS.cells S N)[j]?) (hml : N.mems.length ≤ 8796093022208) (hpm : ∀ z, z ∈ N.mems → 1 ≤ z.words ∧ z.words ≤ 256) :
    Calls Try.prog 32 #[.pointer (some ⟨nbk, 0, none⟩)] w fun e w' => ∃ mk vb rg wb, ∃ ms : List MB, e = .returned (.pointer (some ⟨mk, 0, none⟩)) ∧ WmAt w.heap.size w' mk nbk vb rg wb S N (List.replicate N.nodes.length 0) (initR N) ms ∧ Apart w.heap.size mk nbk vb rg wb ms ∧ ms.map MB.l = initM N ∧ w.heap.size ≤ mk ∧ w.heap.size ≤ wb ∧ Below w.heap.size w w' := by
  have l1 := hat.ln
  have l2 := hat.lr
  simp only [big] at l1 l2
  have HAT := hidden hat
  have HBX := hidden hbox
  have HPM := hidden hpm
  obtain ⟨sa0, sc0, sa1, sc1, sa2, sc2, sa3, sc3, sa4, sc4, sa5, sc5⟩ := S
  have q1 : w.cell? ⟨nbk, 1, none⟩ = some (.slice sa1 N.nodes.length sc1) := hbox 1
  have q2 : w.cell? ⟨nbk, 2, none⟩ = some (.slice sa2 N.regs.length sc2) := hbox 2
  have q3 : w.cell? ⟨nbk, 3, none⟩ = some (.slice sa3 N.mems.length sc3) := hbox 3
  clear hat hbox hpm
  obtain ⟨i33, hi33, hz33, hs33, hb33⟩ := info_u64
  have HI2 := hidden hi33
  have HZ2 := hidden hz33
  have HS2 := hidden hs33
  have HBY2 := hidden hb33
  clear hi33 hz33 hs33 hb33
  obtain ⟨i34, hi34, hz34, hs34, hb34⟩ := info_sl
  have HI3 := hidden hi34
  have HZ3 := hidden hz34
  have HS3 := hidden hs34
  have HBY3 := hidden hb34
  clear hi34 hz34 hs34 hb34
  have hk1 : i33.bytes * N.nodes.length ≤ 281474976710656 := by rw [HBY2.out]; omega
  have hx1 : N.nodes.length ≤ maxLen := by simp only [maxLen]; omega
  have hk2 : i33.bytes * N.regs.length ≤ 281474976710656 := by rw [HBY2.out]; omega
  have hx2 : N.regs.length ≤ maxLen := by simp only [maxLen]; omega
  have hk3 : i34.bytes * N.mems.length ≤ 281474976710656 := by rw [HBY3.out]; omega
  have hx3 : N.mems.length ≤ maxLen := by simp only [maxLen]; omega
  go_enter Try.func32, Try.ntmps32
  go_upto_region 1 with fail
  refine region_mid (fun a' w' => ∃ mk vb rg wb, a' = ⟨#[.pointer (some ⟨nbk, 0, none⟩), undef, .pointer none, .pointer (some ⟨mk, 0, none⟩), undef, undef, .pointer (some ⟨nbk, 0, none⟩), .pointer (some ⟨nbk, 0, none⟩), .pointer (some ⟨nbk, 0, none⟩), .pointer (some ⟨nbk, 1, none⟩), .slice sa1 N.nodes.length sc1, .int .i64 N.nodes.length, .slice (some ⟨vb, 0, none⟩) N.nodes.length N.nodes.length, .pointer (some ⟨nbk, 0, none⟩), .pointer (some ⟨nbk, 0, none⟩), .pointer (some ⟨nbk, 2, none⟩), .slice sa2 N.regs.length sc2, .int .i64 N.regs.length, .slice (some ⟨rg, 0, none⟩) N.regs.length N.regs.length, .pointer (some ⟨nbk, 0, none⟩), .pointer (some ⟨nbk, 0, none⟩), .pointer (some ⟨nbk, 3, none⟩), .slice sa3 N.mems.length sc3, .int .i64 N.mems.length, .slice (some ⟨wb, 0, none⟩) N.mems.length N.mems.length, .agg #[.pointer (some ⟨nbk, 0, none⟩), .slice (some ⟨vb, 0, none⟩) N.nodes.length N.nodes.length, .slice (some ⟨rg, 0, none⟩) N.regs.length N.regs.length, .slice (some ⟨wb, 0, none⟩) N.mems.length N.mems.length], .pointer (some ⟨mk, 0, none⟩), undef, undef, undef, undef, undef, undef, undef, undef, undef, undef, undef, undef, undef, undef, undef, undef, undef, undef, undef, undef, undef, undef, undef, undef, undef, undef, undef, undef, undef, undef, undef, undef, undef, undef, undef, undef, undef, undef, undef, undef, undef, undef, undef, undef, undef, undef, undef, undef], []⟩ ∧ Made w w' mk nbk vb rg wb N) ?_ ?_
  · refine wp_region_noPanic ?_
    refine wp_region_held_drew (S := (fun w' => Below w.heap.size w w' ∧ (∀ b' o, b' < w.heap.size → w'.cell? ⟨b', o, none⟩ = w.cell? ⟨b', o, none⟩))) (by kernel_rfl) (by (first | assumption | exact sees_of (Below.refl _ _) | exact sees_of (Below.refl _ _).drew | exact sees_after (by assumption) (by assumption) | exact sees_alloc2 (by assumption) _)) (fun hHeld => ?_)
    refine wpAnyH_take (i := 0) (oi := _) (v := ?_) rfl (by kernel_rfl) (by kernel_rfl) (by kernel_rfl) (fun _ _ _ h => h) (Or.inl ⟨by rfl, ?_⟩) (by assumption) ?_
    rotate_left
    · (intro w0 hSw; (try dsimp only at hSw); (try simp only [List.getElem_toArray, List.getElem_cons_zero]); go_simp; try (with_reducible rfl))
    try simp only [Act.put, List.getElem_toArray, List.getElem_cons_zero, List.setIfInBounds_toArray, List.set_cons_zero, List.set_cons_succ]
    refine wpAnyH_take (i := 1) (oi := _) (v := ?_) rfl (by kernel_rfl) (by kernel_rfl) (by kernel_rfl) (fun _ _ _ h => h) (Or.inl ⟨by rfl, ?_⟩) (by assumption) ?_
    rotate_left
    · (intro w0 hSw; (try dsimp only at hSw); (try simp only [List.getElem_toArray, List.getElem_cons_zero, List.getElem_cons_succ]); go_simp; try (with_reducible rfl))
    try simp only [Act.put, List.getElem_toArray, List.getElem_cons_zero, List.getElem_cons_succ, List.setIfInBounds_toArray, List.set_cons_zero, List.set_cons_succ]
    refine wpAnyH_take (i := 2) (oi := _) (v := ?_) rfl (by kernel_rfl) (by kernel_rfl) (by kernel_rfl) (fun _ _ _ h => h) (Or.inl ⟨by rfl, ?_⟩) (by assumption) ?_
    rotate_left
    · (intro w0 hSw; (try dsimp only at hSw); (try simp only [List.getElem_toArray, List.getElem_cons_zero, List.getElem_cons_succ]); go_simp; try (with_reducible rfl))
    try simp only [Act.put, List.getElem_toArray, List.getElem_cons_zero, List.getElem_cons_succ, List.setIfInBounds_toArray, List.set_cons_zero, List.set_cons_succ]
    refine wpAnyH_take (i := 3) (oi := _) (v := ?_) rfl (by kernel_rfl) (by kernel_rfl) (by kernel_rfl) (fun _ _ _ h => h) (Or.inl ⟨by rfl, ?_⟩) (by assumption) ?_
    rotate_left
    · (intro w0 hSw; (try dsimp only at hSw); (try simp only [List.getElem_toArray, List.getElem_cons_zero, List.getElem_cons_succ]); go_simp; try (with_reducible rfl))
    try simp only [Act.put, List.getElem_toArray, List.getElem_cons_zero, List.getElem_cons_succ, List.setIfInBounds_toArray, List.set_cons_zero, List.set_cons_succ]
    refine wpAnyH_take (i := 4) (oi := _) (v := ?_) rfl (by kernel_rfl) (by kernel_rfl) (by kernel_rfl) (fun _ _ _ h => h) (Or.inl ⟨by rfl, ?_⟩) (by assumption) ?_
    rotate_left
    · (intro w0 hSw; (try dsimp only at hSw); (try simp only [List.getElem_toArray, List.getElem_cons_zero, List.getElem_cons_succ]); go_simp; try (with_reducible rfl))
    try simp only [Act.put, List.getElem_toArray, List.getElem_cons_zero, List.getElem_cons_succ, List.setIfInBounds_toArray, List.set_cons_zero, List.set_cons_succ]
    refine wpAnyH_take (i := 5) (oi := _) (v := ?_) rfl (by kernel_rfl) (by kernel_rfl) (by kernel_rfl) (fun _ _ _ h => h) (Or.inl ⟨by rfl, ?_⟩) (by assumption) ?_
    rotate_left
    · (intro w0 hSw; (try dsimp only at hSw); (try simp only [List.getElem_toArray, List.getElem_cons_zero, List.getElem_cons_succ]); go_simp; try (with_reducible rfl))
    try simp only [Act.put, List.getElem_toArray, List.getElem_cons_zero, List.getElem_cons_succ, List.setIfInBounds_toArray, List.set_cons_zero, List.set_cons_succ]
    refine wpAnyH_take (i := 7) (oi := _) (v := ?_) rfl (by kernel_rfl) (by kernel_rfl) (by kernel_rfl) (fun _ _ _ h => h) (Or.inl ⟨by rfl, ?_⟩) (by assumption) ?_
    rotate_left
    · (intro w0 hSw; (try dsimp only at hSw); (try simp only [List.getElem_toArray, List.getElem_cons_zero, List.getElem_cons_succ]); go_simp; try (with_reducible rfl))
    try simp only [Act.put, List.getElem_toArray, List.getElem_cons_zero, List.getElem_cons_succ, List.setIfInBounds_toArray, List.set_cons_zero, List.set_cons_succ]
    refine wpAnyH_take (i := 8) (oi := _) (v := ?_) rfl (by kernel_rfl) (by kernel_rfl) (by kernel_rfl) (fun _ _ _ h => h) (Or.inl ⟨by rfl, ?_⟩) (by assumption) ?_
    rotate_left
    · (intro w0 hSw; (try dsimp only at hSw); (try simp only [List.getElem_toArray, List.getElem_cons_zero, List.getElem_cons_succ]); go_simp; try (with_reducible rfl))
    try simp only [Act.put, List.getElem_toArray, List.getElem_cons_zero, List.getElem_cons_succ, List.setIfInBounds_toArray, List.set_cons_zero, List.set_cons_succ]
    refine wpAnyH_take (i := 9) (oi := _) (v := ?_) rfl (by kernel_rfl) (by kernel_rfl) (by kernel_rfl) (fun _ _ _ h => h) (Or.inl ⟨by rfl, ?_⟩) (by assumption) ?_
    rotate_left
    · (intro w0 hSw; (try dsimp only at hSw); (try simp only [List.getElem_toArray, List.getElem_cons_zero, List.getElem_cons_succ]); go_simp; try (with_reducible rfl))
    try simp only [Act.put, List.getElem_toArray, List.getElem_cons_zero, List.getElem_cons_succ, List.setIfInBounds_toArray, List.set_cons_zero, List.set_cons_succ]
    refine wpAnyH_take (i := 10) (oi := _) (v := ?_) rfl (by kernel_rfl) (by kernel_rfl) (by kernel_rfl) (fun _ _ _ h => h) (Or.inl ⟨by rfl, ?_⟩) (by assumption) ?_
    rotate_left
    · (intro w0 hSw; (try dsimp only at hSw); (try simp only [List.getElem_toArray, List.getElem_cons_zero, List.getElem_cons_succ]); go_simp; try (with_reducible rfl))
    try simp only [Act.put, List.getElem_toArray, List.getElem_cons_zero, List.getElem_cons_succ, List.setIfInBounds_toArray, List.set_cons_zero, List.set_cons_succ]
    refine wpAnyH_take (i := 11) (oi := _) (v := ?_) rfl (by kernel_rfl) (by kernel_rfl) (by kernel_rfl) (fun _ _ _ h => h) (Or.inl ⟨by rfl, ?_⟩) (by assumption) ?_
    rotate_left
    · (intro w0 hSw; (try dsimp only at hSw); (try simp only [List.getElem_toArray, List.getElem_cons_zero, List.getElem_cons_succ]); go_simp; try (with_reducible rfl))
    try simp only [Act.put, List.getElem_toArray, List.getElem_cons_zero, List.getElem_cons_succ, List.setIfInBounds_toArray, List.set_cons_zero, List.set_cons_succ]
    refine wpAnyH_take (i := 13) (oi := _) (v := ?_) rfl (by kernel_rfl) (by kernel_rfl) (by kernel_rfl) (fun _ _ _ h => h) (Or.inl ⟨by rfl, ?_⟩) (by assumption) ?_
    rotate_left
    · (intro w0 hSw; (try dsimp only at hSw); (try simp only [List.getElem_toArray, List.getElem_cons_zero, List.getElem_cons_succ]); go_simp; try (with_reducible rfl))
    try simp only [Act.put, List.getElem_toArray, List.getElem_cons_zero, List.getElem_cons_succ, List.setIfInBounds_toArray, List.set_cons_zero, List.set_cons_succ]
    refine wpAnyH_take (i := 14) (oi := _) (v := ?_) rfl (by kernel_rfl) (by kernel_rfl) (by kernel_rfl) (fun _ _ _ h => h) (Or.inl ⟨by rfl, ?_⟩) (by assumption) ?_
    rotate_left
    · (intro w0 hSw; (try dsimp only at hSw); (try simp only [List.getElem_toArray, List.getElem_cons_zero, List.getElem_cons_succ]); go_simp; try (with_reducible rfl))
    try simp only [Act.put, List.getElem_toArray, List.getElem_cons_zero, List.getElem_cons_succ, List.setIfInBounds_toArray, List.set_cons_zero, List.set_cons_succ]
    refine wpAnyH_take (i := 15) (oi := _) (v := ?_) rfl (by kernel_rfl) (by kernel_rfl) (by kernel_rfl) (fun _ _ _ h => h) (Or.inl ⟨by rfl, ?_⟩) (by assumption) ?_
    rotate_left
    · (intro w0 hSw; (try dsimp only at hSw); (try simp only [List.getElem_toArray, List.getElem_cons_zero, List.getElem_cons_succ]); go_simp; try (with_reducible rfl))
    try simp only [Act.put, List.getElem_toArray, List.getElem_cons_zero, List.getElem_cons_succ, List.setIfInBounds_toArray, List.set_cons_zero, List.set_cons_succ]
    refine wpAnyH_take (i := 16) (oi := _) (v := ?_) rfl (by kernel_rfl) (by kernel_rfl) (by kernel_rfl) (fun _ _ _ h => h) (Or.inl ⟨by rfl, ?_⟩) (by assumption) ?_
    rotate_left
    · (intro w0 hSw; (try dsimp only at hSw); (try simp only [List.getElem_toArray, List.getElem_cons_zero, List.getElem_cons_succ]); go_simp; try (with_reducible rfl))
    try simp only [Act.put, List.getElem_toArray, List.getElem_cons_zero, List.getElem_cons_succ, List.setIfInBounds_toArray, List.set_cons_zero, List.set_cons_succ]
    refine wpAnyH_take (i := 17) (oi := _) (v := ?_) rfl (by kernel_rfl) (by kernel_rfl) (by kernel_rfl) (fun _ _ _ h => h) (Or.inl ⟨by rfl, ?_⟩) (by assumption) ?_
    rotate_left
    · (intro w0 hSw; (try dsimp only at hSw); (try simp only [List.getElem_toArray, List.getElem_cons_zero, List.getElem_cons_succ]); go_simp; try (with_reducible rfl))
    try simp only [Act.put, List.getElem_toArray, List.getElem_cons_zero, List.getElem_cons_succ, List.setIfInBounds_toArray, List.set_cons_zero, List.set_cons_succ]
    refine wpAnyH_ready (rs := [6, 12, 18]) (by kernel_rfl) (by simp) ?_
    refine AllReadyH.cons (o := _) rfl (fun K hK => ?_) ?_
    · refine step_make_full rfl (.tmp 11) (.tmp 11) 34 rfl w.heap.size 33 i33 _ 1 Try.underlying34 HI2.out HZ2.out HS2.out .i64 .i64 (N.nodes.length : Int) (N.nodes.length : Int) N.nodes.length rfl rfl rfl rfl hk1 hx1 (by first | exact Nat.le_refl _ | exact base_le (by assumption)) ?_
      intro wv hownv hgrowv
      have hbv := none_below hgrowv
      refine hK.out _ _ (by (first | assumption | exact sees_of (Below.refl _ _) | exact sees_of (Below.refl _ _).drew | exact sees_after (by assumption) (by assumption) | exact sees_alloc2 (by assumption) _)) (fun hHeldv => ?_)
      clear hK K
      (try simp only [Act.put]); (try simp only [List.setIfInBounds_toArray]); (try simp only [List.set_cons_zero, List.set_cons_succ])
      refine wpAnyH_ready (rs := [12, 18]) (by kernel_rfl) (by simp) ?_
      refine AllReadyH.cons (o := _) rfl (fun K hK => ?_) ?_
      · refine step_make_full rfl (.tmp 17) (.tmp 17) 34 rfl w.heap.size 33 i33 _ 1 Try.underlying34 HI2.out HZ2.out HS2.out .i64 .i64 (N.regs.length : Int) (N.regs.length : Int) N.regs.length rfl rfl rfl rfl hk2 hx2 (by first | exact Nat.le_refl _ | exact base_le (by assumption)) ?_
        intro wr hownr hgrowr
        have hbr := none_below hgrowr
        refine hK.out _ _ (by (first | assumption | exact sees_of (Below.refl _ _) | exact sees_of (Below.refl _ _).drew | exact sees_after (by assumption) (by assumption) | exact sees_alloc2 (by assumption) _)) (fun hHeldr => ?_)
        clear hK K
        (try simp only [Act.put]); (try simp only [List.setIfInBounds_toArray]); (try simp only [List.set_cons_zero, List.set_cons_succ])
        refine wpAnyH_ready (rs := [18]) (by kernel_rfl) (by simp) ?_
        refine AllReadyH.cons (o := _) rfl (fun K hK => ?_) AllReadyH.nil
        refine step_make_full rfl (.tmp 23) (.tmp 23) 31 rfl w.heap.size 34 i34 _ 1 Try.underlying31 HI3.out HZ3.out HS3.out .i64 .i64 (N.mems.length : Int) (N.mems.length : Int) N.mems.length rfl rfl rfl rfl hk3 hx3 (by first | exact Nat.le_refl _ | exact base_le (by assumption)) ?_
        intro wm hownm hgrowm
        have hbm := none_below hgrowm
        refine hK.out _ _ (by (first | assumption | exact sees_of (Below.refl _ _) | exact sees_of (Below.refl _ _).drew | exact sees_after (by assumption) (by assumption) | exact sees_alloc2 (by assumption) _)) (fun hHeldm => ?_)
        clear hK K
        (try simp only [Act.put]); (try simp only [List.setIfInBounds_toArray]); (try simp only [List.set_cons_zero, List.set_cons_succ])
        refine wpAnyH_take (i := 19) (oi := _) (v := ?_) rfl (by kernel_rfl) (by kernel_rfl) (by kernel_rfl) (fun _ _ _ h => h) (Or.inl ⟨by rfl, ?_⟩) (by assumption) ?_
        rotate_left
        · (intro w0 hSw; (try dsimp only at hSw); (try simp only [List.getElem_toArray, List.getElem_cons_zero, List.getElem_cons_succ]); go_simp; try (with_reducible rfl))
        try simp only [Act.put, List.getElem_toArray, List.getElem_cons_zero, List.getElem_cons_succ, List.setIfInBounds_toArray, List.set_cons_zero, List.set_cons_succ]
        refine wpAnyH_ready (rs := [20]) (by kernel_rfl) (by simp) ?_
        refine AllReadyH.cons (o := _) rfl (fun K hK => ?_) AllReadyH.nil
        (try simp only [List.getElem_toArray, List.getElem_cons_zero, List.getElem_cons_succ])
        go_simp
        refine hK.out _ _ (by (first | assumption | exact sees_of (Below.refl _ _) | exact sees_of (Below.refl _ _).drew | exact sees_after (by assumption) (by assumption) | exact sees_alloc2 (by assumption) _)) (fun hHeldb => ?_)
        clear hK K
        (try simp only [Act.put]); (try simp only [List.setIfInBounds_toArray]); (try simp only [List.set_cons_zero, List.set_cons_succ])
        refine wpAnyH_take (i := 21) (oi := _) (v := ?_) rfl (by kernel_rfl) (by kernel_rfl) (by kernel_rfl) (fun _ _ _ h => h) (Or.inl ⟨by rfl, ?_⟩) (by assumption) ?_
        rotate_left
        · (intro w0 hSw; (try dsimp only at hSw); (try simp only [List.getElem_toArray, List.getElem_cons_zero, List.getElem_cons_succ]); go_simp; try (with_reducible rfl))
        try simp only [Act.put, List.getElem_toArray, List.getElem_cons_zero, List.getElem_cons_succ, List.setIfInBounds_toArray, List.set_cons_zero, List.set_cons_succ]
        refine wpAnyH_done (by kernel_rfl) ?_ _
        refine NoPanic.normal ?_
        refine ⟨rfl, _, _, _, _, rfl, ?_⟩
        have la : w.heap.size < wv.heap.size := (hownv.lt _ rfl).2
        have lb : wv.heap.size < wr.heap.size := (hownr.lt _ rfl).2
        have lc : wr.heap.size < wm.heap.size := (hownm.lt _ rfl).2
        have e0 : w.drew.heap.size = w.heap.size := rfl
        exact ⟨own_made0 (own_below (own_below (own_below hownv hbr) hbm) ((Below.refl _ _).alloc (Nat.le_refl _) _)), own_made0 (own_below (own_below hownr hbm) ((Below.refl _ _).alloc (Nat.le_refl _) _)), own_madeN (own_below hownm ((Below.refl _ _).alloc (Nat.le_refl _) _)), cell_new' rfl, cell_new' rfl, cell_new' rfl, cell_new' rfl, by simp, by omega, by omega, by omega, by omega, by omega, by omega, And.left (by assumption)⟩
      refine AllReadyH.cons (o := _) rfl (fun K hK => ?_) AllReadyH.nil
      refine step_make_full rfl (.tmp 23) (.tmp 23) 31 rfl w.heap.size 34 i34 _ 1 Try.underlying31 HI3.out HZ3.out HS3.out .i64 .i64 (N.mems.length : Int) (N.mems.length : Int) N.mems.length rfl rfl rfl rfl hk3 hx3 (by first | exact Nat.le_refl _ | exact base_le (by assumption)) ?_
      intro wm hownm hgrowm
      have hbm := none_below hgrowm
      refine hK.out _ _ (by (first | assumption | exact sees_of (Below.refl _ _) | exact sees_of (Below.refl _ _).drew | exact sees_after (by assumption) (by assumption) | exact sees_alloc2 (by assumption) _)) (fun hHeldm => ?_)
      clear hK K
      (try simp only [Act.put]); (try simp only [List.setIfInBounds_toArray]); (try simp only [List.set_cons_zero, List.set_cons_succ])
      refine wpAnyH_ready (rs := [12]) (by kernel_rfl) (by simp) ?_
      refine AllReadyH.cons (o := _) rfl (fun K hK => ?_) AllReadyH.nil
      refine step_make_full rfl (.tmp 17) (.tmp 17) 34 rfl w.heap.size 33 i33 _ 1 Try.underlying34 HI2.out HZ2.out HS2.out .i64 .i64 (N.regs.length : Int) (N.regs.length : Int) N.regs.length rfl rfl rfl rfl hk2 hx2 (by first | exact Nat.le_refl _ | exact base_le (by assumption)) ?_
      intro wr hownr hgrowr
      have hbr := none_below hgrowr
      refine hK.out _ _ (by (first | assumption | exact sees_of (Below.refl _ _) | exact sees_of (Below.refl _ _).drew | exact sees_after (by assumption) (by assumption) | exact sees_alloc2 (by assumption) _)) (fun hHeldr => ?_)
      clear hK K
      (try simp only [Act.put]); (try simp only [List.setIfInBounds_toArray]); (try simp only [List.set_cons_zero, List.set_cons_succ])
      refine wpAnyH_take (i := 19) (oi := _) (v := ?_) rfl (by kernel_rfl) (by kernel_rfl) (by kernel_rfl) (fun _ _ _ h => h) (Or.inl ⟨by rfl, ?_⟩) (by assumption) ?_
      rotate_left
      · (intro w0 hSw; (try dsimp only at hSw); (try simp only [List.getElem_toArray, List.getElem_cons_zero, List.getElem_cons_succ]); go_simp; try (with_reducible rfl))
      try simp only [Act.put, List.getElem_toArray, List.getElem_cons_zero, List.getElem_cons_succ, List.setIfInBounds_toArray, List.set_cons_zero, List.set_cons_succ]
      refine wpAnyH_ready (rs := [20]) (by kernel_rfl) (by simp) ?_
      refine AllReadyH.cons (o := _) rfl (fun K hK => ?_) AllReadyH.nil
      (try simp only [List.getElem_toArray, List.getElem_cons_zero, List.getElem_cons_succ])
      go_simp
      refine hK.out _ _ (by (first | assumption | exact sees_of (Below.refl _ _) | exact sees_of (Below.refl _ _).drew | exact sees_after (by assumption) (by assumption) | exact sees_alloc2 (by assumption) _)) (fun hHeldb => ?_)
      clear hK K
      (try simp only [Act.put]); (try simp only [List.setIfInBounds_toArray]); (try simp only [List.set_cons_zero, List.set_cons_succ])
      refine wpAnyH_take (i := 21) (oi := _) (v := ?_) rfl (by kernel_rfl) (by kernel_rfl) (by kernel_rfl) (fun _ _ _ h => h) (Or.inl ⟨by rfl, ?_⟩) (by assumption) ?_
      rotate_left
      · (intro w0 hSw; (try dsimp only at hSw); (try simp only [List.getElem_toArray, List.getElem_cons_zero, List.getElem_cons_succ]); go_simp; try (with_reducible rfl))
      try simp only [Act.put, List.getElem_toArray, List.getElem_cons_zero, List.getElem_cons_succ, List.setIfInBounds_toArray, List.set_cons_zero, List.set_cons_succ]
      refine wpAnyH_done (by kernel_rfl) ?_ _
      refine NoPanic.normal ?_
      refine ⟨rfl, _, _, _, _, rfl, ?_⟩
      have la : w.heap.size < wv.heap.size := (hownv.lt _ rfl).2
      have lb : wv.heap.size < wm.heap.size := (hownm.lt _ rfl).2
      have lc : wm.heap.size < wr.heap.size := (hownr.lt _ rfl).2
      have e0 : w.drew.heap.size = w.heap.size := rfl
      exact ⟨own_made0 (own_below (own_below (own_below hownv hbm) hbr) ((Below.refl _ _).alloc (Nat.le_refl _) _)), own_made0 (own_below hownr ((Below.refl _ _).alloc (Nat.le_refl _) _)), own_madeN (own_below (own_below hownm hbr) ((Below.refl _ _).alloc (Nat.le_refl _) _)), cell_new' rfl, cell_new' rfl, cell_new' rfl, cell_new' rfl, by simp, by omega, by omega, by omega, by omega, by omega, by omega, And.left (by assumption)⟩
    refine AllReadyH.cons (o := _) rfl (fun K hK => ?_) ?_
    · refine step_make_full rfl (.tmp 17) (.tmp 17) 34 rfl w.heap.size 33 i33 _ 1 Try.underlying34 HI2.out HZ2.out HS2.out .i64 .i64 (N.regs.length : Int) (N.regs.length : Int) N.regs.length rfl rfl rfl rfl hk2 hx2 (by first | exact Nat.le_refl _ | exact base_le (by assumption)) ?_
      intro wr hownr hgrowr
      have hbr := none_below hgrowr
      refine hK.out _ _ (by (first | assumption | exact sees_of (Below.refl _ _) | exact sees_of (Below.refl _ _).drew | exact sees_after (by assumption) (by assumption) | exact sees_alloc2 (by assumption) _)) (fun hHeldr => ?_)
      clear hK K
      (try simp only [Act.put]); (try simp only [List.setIfInBounds_toArray]); (try simp only [List.set_cons_zero, List.set_cons_succ])
      refine wpAnyH_ready (rs := [6, 18]) (by kernel_rfl) (by simp) ?_
      refine AllReadyH.cons (o := _) rfl (fun K hK => ?_) ?_
      · refine step_make_full rfl (.tmp 11) (.tmp 11) 34 rfl w.heap.size 33 i33 _ 1 Try.underlying34 HI2.out HZ2.out HS2.out .i64 .i64 (N.nodes.length : Int) (N.nodes.length : Int) N.nodes.length rfl rfl rfl rfl hk1 hx1 (by first | exact Nat.le_refl _ | exact base_le (by assumption)) ?_
        intro wv hownv hgrowv
        have hbv := none_below hgrowv
        refine hK.out _ _ (by (first | assumption | exact sees_of (Below.refl _ _) | exact sees_of (Below.refl _ _).drew | exact sees_after (by assumption) (by assumption) | exact sees_alloc2 (by assumption) _)) (fun hHeldv => ?_)
        clear hK K
        (try simp only [Act.put]); (try simp only [List.setIfInBounds_toArray]); (try simp only [List.set_cons_zero, List.set_cons_succ])
        refine wpAnyH_ready (rs := [18]) (by kernel_rfl) (by simp) ?_
        refine AllReadyH.cons (o := _) rfl (fun K hK => ?_) AllReadyH.nil
        refine step_make_full rfl (.tmp 23) (.tmp 23) 31 rfl w.heap.size 34 i34 _ 1 Try.underlying31 HI3.out HZ3.out HS3.out .i64 .i64 (N.mems.length : Int) (N.mems.length : Int) N.mems.length rfl rfl rfl rfl hk3 hx3 (by first | exact Nat.le_refl _ | exact base_le (by assumption)) ?_
        intro wm hownm hgrowm
        have hbm := none_below hgrowm
        refine hK.out _ _ (by (first | assumption | exact sees_of (Below.refl _ _) | exact sees_of (Below.refl _ _).drew | exact sees_after (by assumption) (by assumption) | exact sees_alloc2 (by assumption) _)) (fun hHeldm => ?_)
        clear hK K
        (try simp only [Act.put]); (try simp only [List.setIfInBounds_toArray]); (try simp only [List.set_cons_zero, List.set_cons_succ])
        refine wpAnyH_take (i := 19) (oi := _) (v := ?_) rfl (by kernel_rfl) (by kernel_rfl) (by kernel_rfl) (fun _ _ _ h => h) (Or.inl ⟨by rfl, ?_⟩) (by assumption) ?_
        rotate_left
        · (intro w0 hSw; (try dsimp only at hSw); (try simp only [List.getElem_toArray, List.getElem_cons_zero, List.getElem_cons_succ]); go_simp; try (with_reducible rfl))
        try simp only [Act.put, List.getElem_toArray, List.getElem_cons_zero, List.getElem_cons_succ, List.setIfInBounds_toArray, List.set_cons_zero, List.set_cons_succ]
        refine wpAnyH_ready (rs := [20]) (by kernel_rfl) (by simp) ?_
        refine AllReadyH.cons (o := _) rfl (fun K hK => ?_) AllReadyH.nil
        (try simp only [List.getElem_toArray, List.getElem_cons_zero, List.getElem_cons_succ])
        go_simp
        refine hK.out _ _ (by (first | assumption | exact sees_of (Below.refl _ _) | exact sees_of (Below.refl _ _).drew | exact sees_after (by assumption) (by assumption) | exact sees_alloc2 (by assumption) _)) (fun hHeldb => ?_)
        clear hK K
        (try simp only [Act.put]); (try simp only [List.setIfInBounds_toArray]); (try simp only [List.set_cons_zero, List.set_cons_succ])
        refine wpAnyH_take (i := 21) (oi := _) (v := ?_) rfl (by kernel_rfl) (by kernel_rfl) (by kernel_rfl) (fun _ _ _ h => h) (Or.inl ⟨by rfl, ?_⟩) (by assumption) ?_
        rotate_left
        · (intro w0 hSw; (try dsimp only at hSw); (try simp only [List.getElem_toArray, List.getElem_cons_zero, List.getElem_cons_succ]); go_simp; try (with_reducible rfl))
        try simp only [Act.put, List.getElem_toArray, List.getElem_cons_zero, List.getElem_cons_succ, List.setIfInBounds_toArray, List.set_cons_zero, List.set_cons_succ]
        refine wpAnyH_done (by kernel_rfl) ?_ _
        refine NoPanic.normal ?_
        refine ⟨rfl, _, _, _, _, rfl, ?_⟩
        have la : w.heap.size < wr.heap.size := (hownr.lt _ rfl).2
        have lb : wr.heap.size < wv.heap.size := (hownv.lt _ rfl).2
        have lc : wv.heap.size < wm.heap.size := (hownm.lt _ rfl).2
        have e0 : w.drew.heap.size = w.heap.size := rfl
        exact ⟨own_made0 (own_below (own_below hownv hbm) ((Below.refl _ _).alloc (Nat.le_refl _) _)), own_made0 (own_below (own_below (own_below hownr hbv) hbm) ((Below.refl _ _).alloc (Nat.le_refl _) _)), own_madeN (own_below hownm ((Below.refl _ _).alloc (Nat.le_refl _) _)), cell_new' rfl, cell_new' rfl, cell_new' rfl, cell_new' rfl, by simp, by omega, by omega, by omega, by omega, by omega, by omega, And.left (by assumption)⟩
      refine AllReadyH.cons (o := _) rfl (fun K hK => ?_) AllReadyH.nil
      refine step_make_full rfl (.tmp 23) (.tmp 23) 31 rfl w.heap.size 34 i34 _ 1 Try.underlying31 HI3.out HZ3.out HS3.out .i64 .i64 (N.mems.length : Int) (N.mems.length : Int) N.mems.length rfl rfl rfl rfl hk3 hx3 (by first | exact Nat.le_refl _ | exact base_le (by assumption)) ?_
      intro wm hownm hgrowm
      have hbm := none_below hgrowm
      refine hK.out _ _ (by (first | assumption | exact sees_of (Below.refl _ _) | exact sees_of (Below.refl _ _).drew | exact sees_after (by assumption) (by assumption) | exact sees_alloc2 (by assumption) _)) (fun hHeldm => ?_)
      clear hK K
      (try simp only [Act.put]); (try simp only [List.setIfInBounds_toArray]); (try simp only [List.set_cons_zero, List.set_cons_succ])
      refine wpAnyH_ready (rs := [6]) (by kernel_rfl) (by simp) ?_
      refine AllReadyH.cons (o := _) rfl (fun K hK => ?_) AllReadyH.nil
      refine step_make_full rfl (.tmp 11) (.tmp 11) 34 rfl w.heap.size 33 i33 _ 1 Try.underlying34 HI2.out HZ2.out HS2.out .i64 .i64 (N.nodes.length : Int) (N.nodes.length : Int) N.nodes.length rfl rfl rfl rfl hk1 hx1 (by first | exact Nat.le_refl _ | exact base_le (by assumption)) ?_
      intro wv hownv hgrowv
      have hbv := none_below hgrowv
      refine hK.out _ _ (by (first | assumption | exact sees_of (Below.refl _ _) | exact sees_of (Below.refl _ _).drew | exact sees_after (by assumption) (by assumption) | exact sees_alloc2 (by assumption) _)) (fun hHeldv => ?_)
      clear hK K
      (try simp only [Act.put]); (try simp only [List.setIfInBounds_toArray]); (try simp only [List.set_cons_zero, List.set_cons_succ])
      refine wpAnyH_take (i := 19) (oi := _) (v := ?_) rfl (by kernel_rfl) (by kernel_rfl) (by kernel_rfl) (fun _ _ _ h => h) (Or.inl ⟨by rfl, ?_⟩) (by assumption) ?_
      rotate_left
      · (intro w0 hSw; (try dsimp only at hSw); (try simp only [List.getElem_toArray, List.getElem_cons_zero, List.getElem_cons_succ]); go_simp; try (with_reducible rfl))
      try simp only [Act.put, List.getElem_toArray, List.getElem_cons_zero, List.getElem_cons_succ, List.setIfInBounds_toArray, List.set_cons_zero, List.set_cons_succ]
      refine wpAnyH_ready (rs := [20]) (by kernel_rfl) (by simp) ?_
      refine AllReadyH.cons (o := _) rfl (fun K hK => ?_) AllReadyH.nil
      (try simp only [List.getElem_toArray, List.getElem_cons_zero, List.getElem_cons_succ])
      go_simp
      refine hK.out _ _ (by (first | assumption | exact sees_of (Below.refl _ _) | exact sees_of (Below.refl _ _).drew | exact sees_after (by assumption) (by assumption) | exact sees_alloc2 (by assumption) _)) (fun hHeldb => ?_)
      clear hK K
      (try simp only [Act.put]); (try simp only [List.setIfInBounds_toArray]); (try simp only [List.set_cons_zero, List.set_cons_succ])
      refine wpAnyH_take (i := 21) (oi := _) (v := ?_) rfl (by kernel_rfl) (by kernel_rfl) (by kernel_rfl) (fun _ _ _ h => h) (Or.inl ⟨by rfl, ?_⟩) (by assumption) ?_
      rotate_left
      · (intro w0 hSw; (try dsimp only at hSw); (try simp only [List.getElem_toArray, List.getElem_cons_zero, List.getElem_cons_succ]); go_simp; try (with_reducible rfl))
      try simp only [Act.put, List.getElem_toArray, List.getElem_cons_zero, List.getElem_cons_succ, List.setIfInBounds_toArray, List.set_cons_zero, List.set_cons_succ]
      refine wpAnyH_done (by kernel_rfl) ?_ _
      refine NoPanic.normal ?_
      refine ⟨rfl, _, _, _, _, rfl, ?_⟩
      have la : w.heap.size < wr.heap.size := (hownr.lt _ rfl).2
      have lb : wr.heap.size < wm.heap.size := (hownm.lt _ rfl).2
      have lc : wm.heap.size < wv.heap.size := (hownv.lt _ rfl).2
      have e0 : w.drew.heap.size = w.heap.size := rfl
      exact ⟨own_made0 (own_below hownv ((Below.refl _ _).alloc (Nat.le_refl _) _)), own_made0 (own_below (own_below (own_below hownr hbm) hbv) ((Below.refl _ _).alloc (Nat.le_refl _) _)), own_madeN (own_below (own_below hownm hbv) ((Below.refl _ _).alloc (Nat.le_refl _) _)), cell_new' rfl, cell_new' rfl, cell_new' rfl, cell_new' rfl, by simp, by omega, by omega, by omega, by omega, by omega, by omega, And.left (by assumption)⟩
    refine AllReadyH.cons (o := _) rfl (fun K hK => ?_) AllReadyH.nil
    refine step_make_full rfl (.tmp 23) (.tmp 23) 31 rfl w.heap.size 34 i34 _ 1 Try.underlying31 HI3.out HZ3.out HS3.out .i64 .i64 (N.mems.length : Int) (N.mems.length : Int) N.mems.length rfl rfl rfl rfl hk3 hx3 (by first | exact Nat.le_refl _ | exact base_le (by assumption)) ?_
    intro wm hownm hgrowm
    have hbm := none_below hgrowm
    refine hK.out _ _ (by (first | assumption | exact sees_of (Below.refl _ _) | exact sees_of (Below.refl _ _).drew | exact sees_after (by assumption) (by assumption) | exact sees_alloc2 (by assumption) _)) (fun hHeldm => ?_)
    clear hK K
    (try simp only [Act.put]); (try simp only [List.setIfInBounds_toArray]); (try simp only [List.set_cons_zero, List.set_cons_succ])
    refine wpAnyH_ready (rs := [6, 12]) (by kernel_rfl) (by simp) ?_
    refine AllReadyH.cons (o := _) rfl (fun K hK => ?_) ?_
    · refine step_make_full rfl (.tmp 11) (.tmp 11) 34 rfl w.heap.size 33 i33 _ 1 Try.underlying34 HI2.out HZ2.out HS2.out .i64 .i64 (N.nodes.length : Int) (N.nodes.length : Int) N.nodes.length rfl rfl rfl rfl hk1 hx1 (by first | exact Nat.le_refl _ | exact base_le (by assumption)) ?_
      intro wv hownv hgrowv
      have hbv := none_below hgrowv
      refine hK.out _ _ (by (first | assumption | exact sees_of (Below.refl _ _) | exact sees_of (Below.refl _ _).drew | exact sees_after (by assumption) (by assumption) | exact sees_alloc2 (by assumption) _)) (fun hHeldv => ?_)
      clear hK K
      (try simp only [Act.put]); (try simp only [List.setIfInBounds_toArray]); (try simp only [List.set_cons_zero, List.set_cons_succ])
      refine wpAnyH_ready (rs := [12]) (by kernel_rfl) (by simp) ?_
      refine AllReadyH.cons (o := _) rfl (fun K hK => ?_) AllReadyH.nil
      refine step_make_full rfl (.tmp 17) (.tmp 17) 34 rfl w.heap.size 33 i33 _ 1 Try.underlying34 HI2.out HZ2.out HS2.out .i64 .i64 (N.regs.length : Int) (N.regs.length : Int) N.regs.length rfl rfl rfl rfl hk2 hx2 (by first | exact Nat.le_refl _ | exact base_le (by assumption)) ?_
      intro wr hownr hgrowr
      have hbr := none_below hgrowr
      refine hK.out _ _ (by (first | assumption | exact sees_of (Below.refl _ _) | exact sees_of (Below.refl _ _).drew | exact sees_after (by assumption) (by assumption) | exact sees_alloc2 (by assumption) _)) (fun hHeldr => ?_)
      clear hK K
      (try simp only [Act.put]); (try simp only [List.setIfInBounds_toArray]); (try simp only [List.set_cons_zero, List.set_cons_succ])
      refine wpAnyH_take (i := 19) (oi := _) (v := ?_) rfl (by kernel_rfl) (by kernel_rfl) (by kernel_rfl) (fun _ _ _ h => h) (Or.inl ⟨by rfl, ?_⟩) (by assumption) ?_
      rotate_left
      · (intro w0 hSw; (try dsimp only at hSw); (try simp only [List.getElem_toArray, List.getElem_cons_zero, List.getElem_cons_succ]); go_simp; try (with_reducible rfl))
      try simp only [Act.put, List.getElem_toArray, List.getElem_cons_zero, List.getElem_cons_succ, List.setIfInBounds_toArray, List.set_cons_zero, List.set_cons_succ]
      refine wpAnyH_ready (rs := [20]) (by kernel_rfl) (by simp) ?_
      refine AllReadyH.cons (o := _) rfl (fun K hK => ?_) AllReadyH.nil
      (try simp only [List.getElem_toArray, List.getElem_cons_zero, List.getElem_cons_succ])
      go_simp
      refine hK.out _ _ (by (first | assumption | exact sees_of (Below.refl _ _) | exact sees_of (Below.refl _ _).drew | exact sees_after (by assumption) (by assumption) | exact sees_alloc2 (by assumption) _)) (fun hHeldb => ?_)
      clear hK K
      (try simp only [Act.put]); (try simp only [List.setIfInBounds_toArray]); (try simp only [List.set_cons_zero, List.set_cons_succ])
      refine wpAnyH_take (i := 21) (oi := _) (v := ?_) rfl (by kernel_rfl) (by kernel_rfl) (by kernel_rfl) (fun _ _ _ h => h) (Or.inl ⟨by rfl, ?_⟩) (by assumption) ?_
      rotate_left
      · (intro w0 hSw; (try dsimp only at hSw); (try simp only [List.getElem_toArray, List.getElem_cons_zero, List.getElem_cons_succ]); go_simp; try (with_reducible rfl))
      try simp only [Act.put, List.getElem_toArray, List.getElem_cons_zero, List.getElem_cons_succ, List.setIfInBounds_toArray, List.set_cons_zero, List.set_cons_succ]
      refine wpAnyH_done (by kernel_rfl) ?_ _
      refine NoPanic.normal ?_
      refine ⟨rfl, _, _, _, _, rfl, ?_⟩
      have la : w.heap.size < wm.heap.size := (hownm.lt _ rfl).2
      have lb : wm.heap.size < wv.heap.size := (hownv.lt _ rfl).2
      have lc : wv.heap.size < wr.heap.size := (hownr.lt _ rfl).2
      have e0 : w.drew.heap.size = w.heap.size := rfl
      exact ⟨own_made0 (own_below (own_below hownv hbr) ((Below.refl _ _).alloc (Nat.le_refl _) _)), own_made0 (own_below hownr ((Below.refl _ _).alloc (Nat.le_refl _) _)), own_madeN (own_below (own_below (own_below hownm hbv) hbr) ((Below.refl _ _).alloc (Nat.le_refl _) _)), cell_new' rfl, cell_new' rfl, cell_new' rfl, cell_new' rfl, by simp, by omega, by omega, by omega, by omega, by omega, by omega, And.left (by assumption)⟩
    refine AllReadyH.cons (o := _) rfl (fun K hK => ?_) AllReadyH.nil
    refine step_make_full rfl (.tmp 17) (.tmp 17) 34 rfl w.heap.size 33 i33 _ 1 Try.underlying34 HI2.out HZ2.out HS2.out .i64 .i64 (N.regs.length : Int) (N.regs.length : Int) N.regs.length rfl rfl rfl rfl hk2 hx2 (by first | exact Nat.le_refl _ | exact base_le (by assumption)) ?_
    intro wr hownr hgrowr
    have hbr := none_below hgrowr
    refine hK.out _ _ (by (first | assumption | exact sees_of (Below.refl _ _) | exact sees_of (Below.refl _ _).drew | exact sees_after (by assumption) (by assumption) | exact sees_alloc2 (by assumption) _)) (fun hHeldr => ?_)
    clear hK K
    (try simp only [Act.put]); (try simp only [List.setIfInBounds_toArray]); (try simp only [List.set_cons_zero, List.set_cons_succ])
    refine wpAnyH_ready (rs := [6]) (by kernel_rfl) (by simp) ?_
    refine AllReadyH.cons (o := _) rfl (fun K hK => ?_) AllReadyH.nil
    refine step_make_full rfl (.tmp 11) (.tmp 11) 34 rfl w.heap.size 33 i33 _ 1 Try.underlying34 HI2.out HZ2.out HS2.out .i64 .i64 (N.nodes.length : Int) (N.nodes.length : Int) N.nodes.length rfl rfl rfl rfl hk1 hx1 (by first | exact Nat.le_refl _ | exact base_le (by assumption)) ?_
    intro wv hownv hgrowv
    have hbv := none_below hgrowv
    refine hK.out _ _ (by (first | assumption | exact sees_of (Below.refl _ _) | exact sees_of (Below.refl _ _).drew | exact sees_after (by assumption) (by assumption) | exact sees_alloc2 (by assumption) _)) (fun hHeldv => ?_)
    clear hK K
    (try simp only [Act.put]); (try simp only [List.setIfInBounds_toArray]); (try simp only [List.set_cons_zero, List.set_cons_succ])
    refine wpAnyH_take (i := 19) (oi := _) (v := ?_) rfl (by kernel_rfl) (by kernel_rfl) (by kernel_rfl) (fun _ _ _ h => h) (Or.inl ⟨by rfl, ?_⟩) (by assumption) ?_
    rotate_left
    · (intro w0 hSw; (try dsimp only at hSw); (try simp only [List.getElem_toArray, List.getElem_cons_zero, List.getElem_cons_succ]); go_simp; try (with_reducible rfl))
    try simp only [Act.put, List.getElem_toArray, List.getElem_cons_zero, List.getElem_cons_succ, List.setIfInBounds_toArray, List.set_cons_zero, List.set_cons_succ]
    refine wpAnyH_ready (rs := [20]) (by kernel_rfl) (by simp) ?_
    refine AllReadyH.cons (o := _) rfl (fun K hK => ?_) AllReadyH.nil
    (try simp only [List.getElem_toArray, List.getElem_cons_zero, List.getElem_cons_succ])
    go_simp
    refine hK.out _ _ (by (first | assumption | exact sees_of (Below.refl _ _) | exact sees_of (Below.refl _ _).drew | exact sees_after (by assumption) (by assumption) | exact sees_alloc2 (by assumption) _)) (fun hHeldb => ?_)
    clear hK K
    (try simp only [Act.put]); (try simp only [List.setIfInBounds_toArray]); (try simp only [List.set_cons_zero, List.set_cons_succ])
    refine wpAnyH_take (i := 21) (oi := _) (v := ?_) rfl (by kernel_rfl) (by kernel_rfl) (by kernel_rfl) (fun _ _ _ h => h) (Or.inl ⟨by rfl, ?_⟩) (by assumption) ?_
    rotate_left
    · (intro w0 hSw; (try dsimp only at hSw); (try simp only [List.getElem_toArray, List.getElem_cons_zero, List.getElem_cons_succ]); go_simp; try (with_reducible rfl))
    try simp only [Act.put, List.getElem_toArray, List.getElem_cons_zero, List.getElem_cons_succ, List.setIfInBounds_toArray, List.set_cons_zero, List.set_cons_succ]
    refine wpAnyH_done (by kernel_rfl) ?_ _
    refine NoPanic.normal ?_
    refine ⟨rfl, _, _, _, _, rfl, ?_⟩
    have la : w.heap.size < wm.heap.size := (hownm.lt _ rfl).2
    have lb : wm.heap.size < wr.heap.size := (hownr.lt _ rfl).2
    have lc : wr.heap.size < wv.heap.size := (hownv.lt _ rfl).2
    have e0 : w.drew.heap.size = w.heap.size := rfl
    exact ⟨own_made0 (own_below hownv ((Below.refl _ _).alloc (Nat.le_refl _) _)), own_made0 (own_below (own_below hownr hbv) ((Below.refl _ _).alloc (Nat.le_refl _) _)), own_madeN (own_below (own_below (own_below hownm hbr) hbv) ((Below.refl _ _).alloc (Nat.le_refl _) _)), cell_new' rfl, cell_new' rfl, cell_new' rfl, cell_new' rfl, by simp, by omega, by omega, by omega, by omega, by omega, by omega, And.left (by assumption)⟩
  · intro a' w1 hmid
    obtain ⟨mk, vb, rg, wb, rfl, hmd⟩ := hmid
    have HMD := hidden hmd
    have blt1 : nbk < w1.heap.size := Nat.lt_of_lt_of_le blt HMD.out.b.size
    have p2 : w1.cell? ⟨nbk, 2, none⟩ = some (.slice sa2 N.regs.length sc2) := (HMD.out.b.cell (p := ⟨nbk, 2, none⟩) blt).trans q2
    have h1r := (HMD.out.r.lt rg rfl)
    have h1v := (HMD.out.v.lt vb rfl)
    have h1m := (HMD.out.m.lt wb rfl)
    have HO0 : Hid (w1.ownsRow w.heap.size 33 1 (.slice (some ⟨rg, 0, none⟩) N.regs.length N.regs.length) N.regs.length ((((N.regs.take 0).map fun (r : RegD) => r.init.toNat) ++ (List.replicate N.regs.length 0).drop 0).map uV)) := HMD.out.r
    clear hmd q1 q2
    go_wp2_with fail
    go_loopw [32] (fun i' w' => ∃ (k : Nat), k ≤ N.regs.length ∧ i' = .int .i64 k ∧ Hid (w'.ownsRow w.heap.size 33 1 (.slice (some ⟨rg, 0, none⟩) N.regs.length N.regs.length) N.regs.length ((((N.regs.take k).map fun (r : RegD) => r.init.toNat) ++ (List.replicate N.regs.length 0).drop k).map uV)) ∧ Hid (w1.grownBy w' (some rg))) (fun i' _ => N.regs.length - (intOf i').toNat)
    case atStart => exact ⟨0, Nat.zero_le _, rfl, HO0.out, grown_refl _ _⟩
    case round =>
      obtain ⟨k, hk, rfl, HO, HG⟩ := hrel
      have nm1 : mk ≠ rg := by have := HMD.out.a5; omega
      have nb1 : nbk ≠ rg := by omega
      have m2R : wr.cell? ⟨mk, 2, none⟩ = some (.slice (some ⟨rg, 0, none⟩) N.regs.length N.regs.length) := HG.out.cell HMD.out.c2 (by intro e; cases e; exact nm1 rfl)
      have q2R : wr.cell? ⟨nbk, 2, none⟩ = some (.slice sa2 N.regs.length sc2) := HG.out.cell p2 (by intro e; cases e; exact nb1 rfl)
      by_cases hlt : k < N.regs.length
      · obtain ⟨z, hz⟩ : ∃ z, N.regs[k]? = some z := ⟨N.regs[k], List.getElem?_eq_getElem hlt⟩
        obtain ⟨rb, ro, ea, hrb, hrc⟩ := HAT.out.r.el hz
        have nr1 : rb ≠ rg := by omega
        have c1 : wr.cell? ⟨rb, ro + k * 3 + 1, none⟩ = some (.int .u64 z.init) := HG.out.cell ((HMD.out.b.cell (p := ⟨rb, ro + k * 3 + 1, none⟩) (by show rb < _; omega)).trans (hrc 1 _ rfl)) (by intro e; cases e; exact nr1 rfl)
        have e1 : z.init = ((z.init.toNat : Nat) : Int) := by have := (HAT.out.ra z (List.mem_of_getElem? hz)).1; omega
        rw [e1] at c1
        have hcl := HO.out.cellAt k (by omega)
        have hfz := HO.out.frozenAt k
        have hold : ∃ old, wr.cell? ⟨rg, k, none⟩ = some old := by
          rw [hcl]
          have hL : k < ((((N.regs.take k).map fun (r : RegD) => r.init.toNat) ++ (List.replicate N.regs.length 0).drop k).map uV).length := by simp; omega
          exact ⟨_, List.getElem?_eq_getElem hL⟩
        obtain ⟨old, hold⟩ := hold
        have HNX : Hid (((((N.regs.take k).map fun (r : RegD) => r.init.toNat) ++ (List.replicate N.regs.length 0).drop k).map uV).set k (.int .u64 ((z.init.toNat : Nat) : Int)) = ((((N.regs.take (k + 1)).map fun (r : RegD) => r.init.toNat) ++ (List.replicate N.regs.length 0).drop (k + 1)).map uV)) := by
          show _ = _
          have e : ((N.regs.take k ++ [z]).map fun (r : RegD) => r.init.toNat) = ((N.regs.take k).map fun (r : RegD) => r.init.toNat) ++ [z.init.toNat] := by rw [List.map_append]; rfl
          rw [take_next _ k z hz, e]
          exact set_next _ _ k _ (by simp; omega) (by simpa using hlt)
        have HST := hidden (HO.out.stored k (.int .u64 ((z.init.toNat : Nat) : Int)))
        generalize z.init.toNat = y at *
        have HEND : Hid (((wr.setCell ⟨rg, k, none⟩ (.int .u64 (y : Int))).drew).ownsRow w.heap.size 33 1 (.slice (some ⟨rg, 0, none⟩) N.regs.length N.regs.length) N.regs.length ((((N.regs.take (k + 1)).map fun (r : RegD) => r.init.toNat) ++ (List.replicate N.regs.length 0).drop (k + 1)).map uV) ∧ w1.grownBy ((wr.setCell ⟨rg, k, none⟩ (.int .u64 (y : Int))).drew) (some rg)) := by
          refine ⟨?_, ?_⟩
          · rw [← HNX.out]; exact own_below HST.out.1 (Below.refl _ _).drew
          · exact grown_trans HG.out (grown_trans HST.out.2 (grown_drew _ _))
        subst ea
        have hltI : (k : Int) < (N.regs.length : Int) := by omega
        have e3 : IntKind.i64.wrap ((k : Int) + 1) = (k : Int) + 1 := wrapI _ (by omega) (by omega)
        clear hrc hz hcl HO HST HNX HG e1 p2
        go_wp2_with fail
        go_region_held3 (fun w' => ∀ b' o, b' ≠ rg → w'.cell? ⟨b', o, none⟩ = wr.cell? ⟨b', o, none⟩)
          (first | assumption | (intro b' o h1; rfl) | (intro b' o h1; exact World.cell?_setCell_far _ _ _ _ (fun e => h1 (by have e' : rg = b' := e; exact e'.symm))))
          (fail)
        all_goals
          go_wp2_with fail
          go_roundw
          case measure => simp [intOf]; omega
          case rel => exact ⟨k + 1, by omega, by simp, HEND.out.1, HEND.out.2⟩
      · have hge : ¬ ((k : Int) < (N.regs.length : Int)) := by omega
        have HOR : Hid (wr.ownsRow w.heap.size 33 1 (.slice (some ⟨rg, 0, none⟩) N.regs.length N.regs.length) N.regs.length ((initR N).map uV)) := by
          have := HO.out
          rw [List.take_of_length_le (by omega), List.drop_eq_nil_of_le (by simp; omega), List.append_nil] at this
          exact this
        obtain ⟨V, hV⟩ : ∃ V, V = wr := ⟨_, rfl⟩
        subst hV
        have HGV := hidden HG.out
        have h1V := HGV.out.size
        have HBV : Hid (Below w.heap.size w V) := HMD.out.b.trans (below_grown HGV.out HMD.out.b.size (fun x hx => by cases hx; omega))
        have q3V : V.cell? ⟨nbk, 3, none⟩ = some (.slice sa3 N.mems.length sc3) := (HBV.out.cell (p := ⟨nbk, 3, none⟩) blt).trans q3
        have HM0 : Hid (V.ownsRow w.heap.size 34 1 (.slice (some ⟨wb, 0, none⟩) N.mems.length N.mems.length) N.mems.length (([] : List MB).map MB.val ++ List.replicate (N.mems.length - 0) (.slice none 0 0))) := HMD.out.m.kept HGV.out (.inr (by show some wb ≠ some rg; intro e; cases e; exact HMD.out.a3 rfl))
        clear HO HG m2R q2R p2
        go_wp2_with fail
        go_loopw [55] (fun i' w' => ∃ (k : Nat) (msk : List MB), k ≤ N.mems.length ∧ i' = .int .i64 k ∧ Hid (msk.length = k) ∧ Hid (msk.map MB.l = (N.mems.take k).map fun m => List.replicate m.words.toNat 0) ∧ Hid (MsIn w.heap.size w' msk) ∧ Hid (w'.ownsRow w.heap.size 34 1 (.slice (some ⟨wb, 0, none⟩) N.mems.length N.mems.length) N.mems.length (msk.map MB.val ++ List.replicate (N.mems.length - k) (.slice none 0 0))) ∧ Hid (∀ m, m ∈ msk → V.heap.size ≤ m.b) ∧ Hid (V.grownBy w' (some wb))) (fun i' _ => N.mems.length - (intOf i').toNat)
        case atStart => exact ⟨0, [], Nat.zero_le _, rfl, rfl, rfl, ⟨fun m hm => (by simp at hm), fun i j m m' hm => (by simp at hm)⟩, HM0.out, fun m hm => (by simp at hm), grown_refl _ _⟩
        case round =>
          obtain ⟨k, msk, hk, rfl, HML, HLL, HMI, HO, HMV, HG⟩ := hrel
          have hVr := HG.out.size
          have nm3 : mk ≠ wb := by have := HMD.out.a6; omega
          have nb3 : nbk ≠ wb := by omega
          have hmk1 := HMD.out.lt
          have nmr : mk ≠ rg := by have := HMD.out.a5; omega
          have HCK : ∀ j v, w1.cell? ⟨mk, j, none⟩ = some v → wr.cell? ⟨mk, j, none⟩ = some v := fun j v hv => HG.out.cell (HGV.out.cell hv (by intro e; cases e; exact nmr rfl)) (by intro e; cases e; exact nm3 rfl)
          have m3R : wr.cell? ⟨mk, 3, none⟩ = some (.slice (some ⟨wb, 0, none⟩) N.mems.length N.mems.length) := HCK 3 _ HMD.out.c3
          have q3R : wr.cell? ⟨nbk, 3, none⟩ = some (.slice sa3 N.mems.length sc3) := HG.out.cell q3V (by intro e; cases e; exact nb3 rfl)
          by_cases hlt : k < N.mems.length
          · obtain ⟨z, hz⟩ : ∃ z, N.mems[k]? = some z := ⟨N.mems[k], List.getElem?_eq_getElem hlt⟩
            obtain ⟨rb, ro, ea, hrb, hrc⟩ := HAT.out.m.el hz
            have nr3 : rb ≠ wb := by omega
            have c1 : wr.cell? ⟨rb, ro + k * 2 + 1, none⟩ = some (.int .i64 z.words) := HG.out.cell ((HBV.out.cell (p := ⟨rb, ro + k * 2 + 1, none⟩) (by show rb < _; omega)).trans (hrc 1 _ rfl)) (by intro e; cases e; exact nr3 rfl)
            have hzw := HPM.out z (List.mem_of_getElem? hz)
            have e1 : z.words = ((z.words.toNat : Nat) : Int) := by omega
            rw [e1] at c1
            have HNL : Hid ((N.mems.take (k + 1)).map (fun m => List.replicate m.words.toNat 0) = msk.map MB.l ++ [List.replicate z.words.toNat 0]) := by
              show _ = _
              rw [take_next _ k z hz, List.map_append, HLL.out]; rfl
            have hnw : z.words.toNat ≤ 256 := by omega
            generalize z.words.toNat = nw at *
            subst ea
            have hkw : i33.bytes * nw ≤ 281474976710656 := by rw [HBY2.out]; omega
            have hxw : nw ≤ maxLen := by simp only [maxLen]; omega
            have hltI : (k : Int) < (N.mems.length : Int) := by omega
            have e3 : IntKind.i64.wrap ((k : Int) + 1) = (k : Int) + 1 := wrapI _ (by omega) (by omega)
            have hmr : mk < wr.heap.size := by omega
            have hbr : nbk < wr.heap.size := by omega
            have hrr : rb < wr.heap.size := by omega
            have hwr : wb < wr.heap.size := by omega
            have hsw : w.heap.size ≤ wr.drew.heap.size := by show w.heap.size ≤ wr.heap.size; omega
            clear hrc hz e1 hzw HLL
            go_wp2_with fail
            refine wp_region_noPanic ?_
            refine wp_region_held_drew (S := (fun w' => ∀ b' o, b' < wr.heap.size → b' ≠ wb → w'.cell? ⟨b', o, none⟩ = wr.cell? ⟨b', o, none⟩)) (by kernel_rfl) (by (first | assumption | (intro b' o h1 h2; rfl) | (intro b' o h1 h2; exact hbA.cell (p := ⟨b', o, none⟩) h1) | (intro b' o h1 h2; exact (World.cell?_setCell_far _ _ _ _ (fun e => h2 (by have e' : wb = b' := e; exact e'.symm))).trans (hbA.cell (p := ⟨b', o, none⟩) h1)))) (fun hHeld => ?_)
            refine wpAnyH_take (i := 0) (oi := _) (v := ?_) rfl (by kernel_rfl) (by kernel_rfl) (by kernel_rfl) (fun _ _ _ h => h) (Or.inl ⟨by rfl, ?_⟩) (by assumption) ?_
            rotate_left
            · (intro w0 hSw; (try dsimp only at hSw); (try simp only [List.getElem_toArray, List.getElem_cons_zero]); go_simp; try (with_reducible rfl))
            try simp only [Act.put, List.getElem_toArray, List.getElem_cons_zero, List.setIfInBounds_toArray, List.set_cons_zero, List.set_cons_succ]
            refine wpAnyH_take (i := 1) (oi := _) (v := ?_) rfl (by kernel_rfl) (by kernel_rfl) (by kernel_rfl) (fun _ _ _ h => h) (Or.inl ⟨by rfl, ?_⟩) (by assumption) ?_
            rotate_left
            · (intro w0 hSw; (try dsimp only at hSw); (try simp only [List.getElem_toArray, List.getElem_cons_zero, List.getElem_cons_succ]); go_simp; try (with_reducible rfl))
            try simp only [Act.put, List.getElem_toArray, List.getElem_cons_zero, List.getElem_cons_succ, List.setIfInBounds_toArray, List.set_cons_zero, List.set_cons_succ]
            refine wpAnyH_take (i := 2) (oi := _) (v := ?_) rfl (by kernel_rfl) (by kernel_rfl) (by kernel_rfl) (fun _ _ _ h => h) (Or.inl ⟨by rfl, ?_⟩) (by assumption) ?_
            rotate_left
            · (intro w0 hSw; (try dsimp only at hSw); (try simp only [List.getElem_toArray, List.getElem_cons_zero, List.getElem_cons_succ]); go_simp; try (with_reducible rfl))
            try simp only [Act.put, List.getElem_toArray, List.getElem_cons_zero, List.getElem_cons_succ, List.setIfInBounds_toArray, List.set_cons_zero, List.set_cons_succ]
            refine wpAnyH_take (i := 3) (oi := _) (v := ?_) rfl (by kernel_rfl) (by kernel_rfl) (by kernel_rfl) (fun _ _ _ h => h) (Or.inl ⟨by rfl, ?_⟩) (by assumption) ?_
            rotate_left
            · (intro w0 hSw; (try dsimp only at hSw); (try simp only [List.getElem_toArray, List.getElem_cons_zero, List.getElem_cons_succ]); go_simp; try (with_reducible rfl))
            try simp only [Act.put, List.getElem_toArray, List.getElem_cons_zero, List.getElem_cons_succ, List.setIfInBounds_toArray, List.set_cons_zero, List.set_cons_succ]
            refine wpAnyH_take (i := 4) (oi := _) (v := ?_) rfl (by kernel_rfl) (by kernel_rfl) (by kernel_rfl) (fun _ _ _ h => h) (Or.inl ⟨by rfl, ?_⟩) (by assumption) ?_
            rotate_left
            · (intro w0 hSw; (try dsimp only at hSw); (try simp only [List.getElem_toArray, List.getElem_cons_zero, List.getElem_cons_succ]); go_simp; try (with_reducible rfl))
            try simp only [Act.put, List.getElem_toArray, List.getElem_cons_zero, List.getElem_cons_succ, List.setIfInBounds_toArray, List.set_cons_zero, List.set_cons_succ]
            refine wpAnyH_take (i := 5) (oi := _) (v := ?_) rfl (by kernel_rfl) (by kernel_rfl) (by kernel_rfl) (fun _ _ _ h => h) (Or.inl ⟨by rfl, ?_⟩) (by assumption) ?_
            rotate_left
            · (intro w0 hSw; (try dsimp only at hSw); (try simp only [List.getElem_toArray, List.getElem_cons_zero, List.getElem_cons_succ]); go_simp; try (with_reducible rfl))
            try simp only [Act.put, List.getElem_toArray, List.getElem_cons_zero, List.getElem_cons_succ, List.setIfInBounds_toArray, List.set_cons_zero, List.set_cons_succ]
            refine wpAnyH_take (i := 6) (oi := _) (v := ?_) rfl (by kernel_rfl) (by kernel_rfl) (by kernel_rfl) (fun _ _ _ h => h) (Or.inl ⟨by rfl, ?_⟩) (by assumption) ?_
            rotate_left
            · (intro w0 hSw; (try dsimp only at hSw); (try simp only [List.getElem_toArray, List.getElem_cons_zero, List.getElem_cons_succ]); go_simp; try (with_reducible rfl))
            try simp only [Act.put, List.getElem_toArray, List.getElem_cons_zero, List.getElem_cons_succ, List.setIfInBounds_toArray, List.set_cons_zero, List.set_cons_succ]
            refine wpAnyH_take (i := 7) (oi := _) (v := ?_) rfl (by kernel_rfl) (by kernel_rfl) (by kernel_rfl) (fun _ _ _ h => h) (Or.inl ⟨by rfl, ?_⟩) (by assumption) ?_
            rotate_left
            · (intro w0 hSw; (try dsimp only at hSw); (try simp only [List.getElem_toArray, List.getElem_cons_zero, List.getElem_cons_succ]); go_simp; try (with_reducible rfl))
            try simp only [Act.put, List.getElem_toArray, List.getElem_cons_zero, List.getElem_cons_succ, List.setIfInBounds_toArray, List.set_cons_zero, List.set_cons_succ]
            refine wpAnyH_take (i := 8) (oi := _) (v := ?_) rfl (by kernel_rfl) (by kernel_rfl) (by kernel_rfl) (fun _ _ _ h => h) (Or.inl ⟨by rfl, ?_⟩) (by assumption) ?_
            rotate_left
            · (intro w0 hSw; (try dsimp only at hSw); (try simp only [List.getElem_toArray, List.getElem_cons_zero, List.getElem_cons_succ]); go_simp; try (with_reducible rfl))
            try simp only [Act.put, List.getElem_toArray, List.getElem_cons_zero, List.getElem_cons_succ, List.setIfInBounds_toArray, List.set_cons_zero, List.set_cons_succ]
            refine wpAnyH_take (i := 9) (oi := _) (v := ?_) rfl (by kernel_rfl) (by kernel_rfl) (by kernel_rfl) (fun _ _ _ h => h) (Or.inl ⟨by rfl, ?_⟩) (by assumption) ?_
            rotate_left
            · (intro w0 hSw; (try dsimp only at hSw); (try simp only [List.getElem_toArray, List.getElem_cons_zero, List.getElem_cons_succ]); go_simp; try (with_reducible rfl))
            try simp only [Act.put, List.getElem_toArray, List.getElem_cons_zero, List.getElem_cons_succ, List.setIfInBounds_toArray, List.set_cons_zero, List.set_cons_succ]
            refine wpAnyH_take (i := 10) (oi := _) (v := ?_) rfl (by kernel_rfl) (by kernel_rfl) (by kernel_rfl) (fun _ _ _ h => h) (Or.inl ⟨by rfl, ?_⟩) (by assumption) ?_
            rotate_left
            · (intro w0 hSw; (try dsimp only at hSw); (try simp only [List.getElem_toArray, List.getElem_cons_zero, List.getElem_cons_succ]); go_simp; try (with_reducible rfl))
            try simp only [Act.put, List.getElem_toArray, List.getElem_cons_zero, List.getElem_cons_succ, List.setIfInBounds_toArray, List.set_cons_zero, List.set_cons_succ]
            refine wpAnyH_take (i := 11) (oi := _) (v := ?_) rfl (by kernel_rfl) (by kernel_rfl) (by kernel_rfl) (fun _ _ _ h => h) (Or.inl ⟨by rfl, ?_⟩) (by assumption) ?_
            rotate_left
            · (intro w0 hSw; (try dsimp only at hSw); (try simp only [List.getElem_toArray, List.getElem_cons_zero, List.getElem_cons_succ]); go_simp; try (with_reducible rfl))
            try simp only [Act.put, List.getElem_toArray, List.getElem_cons_zero, List.getElem_cons_succ, List.setIfInBounds_toArray, List.set_cons_zero, List.set_cons_succ]
            refine wpAnyH_take (i := 12) (oi := _) (v := ?_) rfl (by kernel_rfl) (by kernel_rfl) (by kernel_rfl) (fun _ _ _ h => h) (Or.inl ⟨by rfl, ?_⟩) (by assumption) ?_
            rotate_left
            · (intro w0 hSw; (try dsimp only at hSw); (try simp only [List.getElem_toArray, List.getElem_cons_zero, List.getElem_cons_succ]); go_simp; try (with_reducible rfl))
            try simp only [Act.put, List.getElem_toArray, List.getElem_cons_zero, List.getElem_cons_succ, List.setIfInBounds_toArray, List.set_cons_zero, List.set_cons_succ]
            refine wpAnyH_ready (rs := [13]) (by kernel_rfl) (by simp) ?_
            refine AllReadyH.cons (o := _) rfl (fun K hK => ?_) AllReadyH.nil
            refine step_make_full rfl (.tmp 70) (.tmp 70) 34 rfl w.heap.size 33 i33 _ 1 Try.underlying34 HI2.out HZ2.out HS2.out .i64 .i64 (nw : Int) (nw : Int) nw rfl rfl rfl rfl hkw hxw hsw ?_
            intro wA hownA hgrowA
            have hbA : Below wr.heap.size wr wA := ⟨hgrowA.os, hgrowA.tape, hgrowA.output, hgrowA.size, fun k hk => hgrowA.block k hk (by simp)⟩
            have HOA := hidden (own_below HO.out hbA)
            have hclA := HOA.out.cellAt k (by omega)
            have hfzA := HOA.out.frozenAt k
            have holdA : ∃ old, wA.cell? ⟨wb, k, none⟩ = some old := by
              rw [hclA]
              have hL : k < (msk.map MB.val ++ List.replicate (N.mems.length - k) (Value.slice none 0 0)).length := by simp; have := HML.out; omega
              exact ⟨_, List.getElem?_eq_getElem hL⟩
            obtain ⟨oldA, holdA⟩ := holdA
            clear hclA
            refine hK.out _ _ (by (first | assumption | (intro b' o h1 h2; rfl) | (intro b' o h1 h2; exact hbA.cell (p := ⟨b', o, none⟩) h1) | (intro b' o h1 h2; exact (World.cell?_setCell_far _ _ _ _ (fun e => h2 (by have e' : wb = b' := e; exact e'.symm))).trans (hbA.cell (p := ⟨b', o, none⟩) h1)))) (fun hHeldA => ?_)
            clear hK K
            (try simp only [Act.put]); (try simp only [List.setIfInBounds_toArray]); (try simp only [List.set_cons_zero, List.set_cons_succ])
            refine wpAnyH_take (i := 14) (oi := _) (v := ?_) rfl (by kernel_rfl) (by kernel_rfl) (by kernel_rfl) (fun _ _ _ h => h) (Or.inl ⟨by rfl, ?_⟩) (by assumption) ?_
            rotate_left
            · (intro w0 hSw; (try dsimp only at hSw); (try simp only [List.getElem_toArray, List.getElem_cons_zero, List.getElem_cons_succ]); go_simp; try (with_reducible rfl))
            try simp only [Act.put, List.getElem_toArray, List.getElem_cons_zero, List.getElem_cons_succ, List.setIfInBounds_toArray, List.set_cons_zero, List.set_cons_succ]
            refine wpAnyH_ready (rs := [15]) (by kernel_rfl) (by simp) ?_
            refine AllReadyH.cons (o := _) rfl (fun K hK => ?_) AllReadyH.nil
            (try simp only [List.getElem_toArray, List.getElem_cons_zero, List.getElem_cons_succ])
            go_simp
            refine hK.out _ _ (by (first | assumption | (intro b' o h1 h2; rfl) | (intro b' o h1 h2; exact hbA.cell (p := ⟨b', o, none⟩) h1) | (intro b' o h1 h2; exact (World.cell?_setCell_far _ _ _ _ (fun e => h2 (by have e' : wb = b' := e; exact e'.symm))).trans (hbA.cell (p := ⟨b', o, none⟩) h1)))) (fun hHeldb => ?_)
            clear hK K
            (try simp only [Act.put]); (try simp only [List.setIfInBounds_toArray]); (try simp only [List.set_cons_zero, List.set_cons_succ])
            refine wpAnyH_done (by kernel_rfl) ?_ _
            refine NoPanic.normal ?_
            have HBA := hidden hbA
            have HST := hidden (HOA.out.stored k (.slice (some ⟨wr.heap.size, 0, none⟩) nw nw))
            have HOW : Hid (wA.ownsRow w.heap.size 33 1 (.slice (some ⟨wr.heap.size, 0, none⟩) nw nw) nw ((List.replicate nw 0).map uV)) := own_made0 hownA
            obtain ⟨nb, hnb⟩ : ∃ n, n = wr.heap.size := ⟨_, rfl⟩
            have HNB := hidden hnb
            rw [← hnb] at HST HOW ⊢
            have HAs := HBA.out.size
            have hnbA : nb < wA.heap.size := (HOW.out.lt nb rfl).2
            have hval : MB.val ⟨nb, List.replicate nw 0⟩ = .slice (some ⟨nb, 0, none⟩) nw nw := by unfold MB.val; simp
            have HNX : Hid ((msk.map MB.val ++ List.replicate (N.mems.length - k) (Value.slice none 0 0)).set k (.slice (some ⟨nb, 0, none⟩) nw nw) = (msk ++ [MB.mk nb (List.replicate nw 0)]).map MB.val ++ List.replicate (N.mems.length - (k + 1)) (Value.slice none 0 0)) := by
              show _ = _
              have hkl : (msk.map MB.val).length = k := by rw [List.length_map]; exact HML.out
              rw [show N.mems.length - k = (N.mems.length - (k + 1)) + 1 by omega, List.replicate_succ, List.map_append, List.map_cons, List.map_nil, hval]
              have := set_mid (msk.map MB.val) (Value.slice none 0 0) (.slice (some ⟨nb, 0, none⟩) nw nw) (List.replicate (N.mems.length - (k + 1)) (Value.slice none 0 0))
              rw [hkl] at this
              rw [this]; simp
            have HO5 : Hid ((wA.setCell ⟨wb, k, none⟩ (.slice (some ⟨nb, 0, none⟩) nw nw)).ownsRow w.heap.size 34 1 (.slice (some ⟨wb, 0, none⟩) N.mems.length N.mems.length) N.mems.length ((msk ++ [MB.mk nb (List.replicate nw 0)]).map MB.val ++ List.replicate (N.mems.length - (k + 1)) (Value.slice none 0 0))) := by
              have := HST.out.1
              rw [HNX.out] at this
              exact this
            have HMI5 : Hid (MsIn w.heap.size (wA.setCell ⟨wb, k, none⟩ (.slice (some ⟨nb, 0, none⟩) nw nw)) (msk ++ [MB.mk nb (List.replicate nw 0)])) := by
              refine ⟨fun m hm => ?_, fun i j m m' hm hm' he => ?_⟩
              · rcases List.mem_append.1 hm with hm | hm
                · refine (own_below (HMI.out.own m hm) HBA.out).kept HST.out.2 (.inr ?_)
                  show some m.b ≠ some wb
                  intro e; cases e
                  have := HMV.out m hm; omega
                · rw [List.mem_singleton.1 hm, hval]
                  have := HOW.out.kept HST.out.2 (.inr (by show some nb ≠ some wb; intro e; cases e; omega))
                  simpa using this
              · have hold : ∀ (i : Nat) (m : MB), (msk ++ [MB.mk nb (List.replicate nw 0)])[i]? = some m → (i < k ∧ msk[i]? = some m ∧ m.b < nb) ∨ (i = k ∧ m.b = nb) := by
                  intro i m hm
                  rcases Nat.lt_or_ge i k with hi | hi
                  · rw [List.getElem?_append_left (by have := HML.out; omega)] at hm
                    exact .inl ⟨hi, hm, by have := ((HMI.out.own m (List.mem_of_getElem? hm)).lt m.b rfl).2; omega⟩
                  · rw [List.getElem?_append_right (by have := HML.out; omega)] at hm
                    have hi0 := (List.getElem?_eq_some_iff.1 hm).1
                    have : i - msk.length = 0 := by simp at hi0; omega
                    rw [this] at hm
                    have := HML.out
                    simp at hm
                    exact .inr ⟨by simp at hi0; omega, by rw [← hm]⟩
                rcases hold i m hm with ⟨a1, a2, a3⟩ | ⟨a1, a2⟩ <;> rcases hold j m' hm' with ⟨c1', c2', c3'⟩ | ⟨c1', c2'⟩
                · exact HMI.out.apart i j m m' a2 c2' he
                · omega
                · omega
                · omega
            have HLL5 : Hid ((msk ++ [MB.mk nb (List.replicate nw 0)]).map MB.l = (N.mems.take (k + 1)).map fun m => List.replicate m.words.toNat 0) := by
              show _ = _
              rw [HNL.out, List.map_append]; rfl
            have HML5 : Hid ((msk ++ [MB.mk nb (List.replicate nw 0)]).length = k + 1) := by show _ = _; rw [List.length_append, HML.out]; rfl
            have HMV5 : Hid (∀ m, m ∈ msk ++ [MB.mk nb (List.replicate nw 0)] → V.heap.size ≤ m.b) := by
              intro m hm
              rcases List.mem_append.1 hm with hm | hm
              · exact HMV.out m hm
              · rw [List.mem_singleton.1 hm]; show V.heap.size ≤ nb; omega
            have HG5 : Hid (V.grownBy (wA.setCell ⟨wb, k, none⟩ (.slice (some ⟨nb, 0, none⟩) nw nw)) (some wb)) := grown_trans HG.out (grown_trans ⟨HBA.out.os, HBA.out.tape, HBA.out.output, HBA.out.size, fun k hk _ => HBA.out.block k hk⟩ HST.out.2)
            clear hbA hownA hgrowA HOA HST HOW hnb hval HNX HML HMI HO HMV HG HNL HBA HCK hfzA holdA hHeld hHeldA hHeldb
            go_wp2_with fail
            go_roundw
            case measure => simp [intOf]; omega
            case rel => exact ⟨k + 1, _, by omega, by simp, HML5.out, HLL5.out, HMI5.out, HO5.out, HMV5.out, HG5.out⟩
          · have hge : ¬ ((k : Int) < (N.mems.length : Int)) := by omega
            have HOM : Hid (wr.ownsRow w.heap.size 34 1 (.slice (some ⟨wb, 0, none⟩) N.mems.length N.mems.length) N.mems.length (msk.map MB.val)) := by
              have := HO.out
              rw [show N.mems.length - k = 0 by omega] at this
              show World.ownsRow _ _ _ _ _ _ _
              simpa using this
            have HLE : Hid (msk.map MB.l = initM N) := by
              have := HLL.out
              rw [List.take_of_length_le (by omega)] at this
              exact this
            have HRV : Hid (wr.heap[vb]? = some (.cells ((List.replicate N.nodes.length 0).map uV).toArray 33 (0, 0))) := row_of_own ((HMD.out.v.kept HGV.out (.inr (by show some vb ≠ some rg; intro e; cases e; exact HMD.out.a1 rfl))).kept HG.out (.inr (by show some vb ≠ some wb; intro e; cases e; exact HMD.out.a2 rfl)))
            have HRR : Hid (wr.heap[rg]? = some (.cells ((initR N).map uV).toArray 33 (0, 0))) := row_of_own (HOR.out.kept HG.out (.inr (by show some rg ≠ some wb; intro e; cases e; exact HMD.out.a3 rfl)))
            have HRM : Hid (wr.heap[wb]? = some (.cells (msk.map MB.val).toArray 34 (0, 0))) := row_of_own HOM.out
            have HBE : Hid (Below w.heap.size w wr) := HBV.out.trans (below_grown HG.out HBV.out.size (fun x hx => by cases hx; omega))
            have HW : Hid (WmAt w.heap.size wr mk nbk vb rg wb ⟨sa0, sc0, sa1, sc1, sa2, sc2, sa3, sc3, sa4, sc4, sa5, sc5⟩ N (List.replicate N.nodes.length 0) (initR N) msk) :=
              ⟨HCK 0 _ HMD.out.c0, by rw [List.length_replicate]; exact HCK 1 _ HMD.out.c1, HCK 2 _ HMD.out.c2, m3R, by omega, by omega, fun j => (HBE.out.cell (p := ⟨nbk, j, none⟩) blt).trans (HBX.out j), HRV.out, HRR.out, HRM.out, HMI.out⟩
            have z4 := HMD.out.a4
            have z5 := HMD.out.a5
            have z6 := HMD.out.a6
            have HAP : Hid (Apart w.heap.size mk nbk vb rg wb msk) := by
              refine ⟨h1v.1, h1r.1, by omega, by omega, by omega, by omega, fun e => HMD.out.a1 e.symm, fun e => HMD.out.a2 e.symm, fun e => HMD.out.a3 e.symm, fun m hm => ?_, fun m hm => ?_, fun m hm => ?_, fun m hm => ?_, fun m hm => ?_, fun m hm => ?_⟩
              all_goals (have := HMV.out m hm; omega)
            clear HO HLL HOM HRV HRR HRM HMI HCK m3R q3R
            go_wp2
            go_ret
            exact ⟨mk, rfl, vb, rg, wb, msk, HW.out, HAP.out, HLE.out, by omega, h1m.1, HBE.out⟩

end Go.Proofs.Ytlkhmcajedjojaa
