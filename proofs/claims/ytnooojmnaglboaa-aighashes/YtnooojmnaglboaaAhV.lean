import Derived.Test.YtnooojmnaglboaaAhU
import Derived.Test.YtnooojmnaglboaaAhQ
import Derived.Deep.RegionHeld3
namespace Go.Proofs.Ytnooojmnaglboaa
open Go.RowKit

/-! As AgP and AgX have it (that seat is another one) -/
theorem sees_of {W w' : World} (h : Below W.heap.size W w') : Below W.heap.size W w' ∧ (∀ b' o, b' < W.heap.size → w'.cell? ⟨b', o, none⟩ = W.cell? ⟨b', o, none⟩) := ⟨h, fun b' o hb => h.cell (p := ⟨b', o, none⟩) hb⟩
theorem sees_after {W a b : World} (h : Below W.heap.size W a ∧ (∀ b' o, b' < W.heap.size → a.cell? ⟨b', o, none⟩ = W.cell? ⟨b', o, none⟩)) (hb : Below a.heap.size a b) : Below W.heap.size W b ∧ (∀ b' o, b' < W.heap.size → b.cell? ⟨b', o, none⟩ = W.cell? ⟨b', o, none⟩) :=
  sees_of (h.1.trans (hb.mono h.1.size))
/-- a row of a trace -/
structure TR where
  a : Option Addr
  c : Nat
  l : List Bool
def TR.cells (t : TR) : List Value := [.slice t.a t.l.length t.c]
structure TrAt (B : Nat) (w : World) (a : Option Addr) (trs : List TR) : Prop where
  row : RowAt B w a 1 (trs.map TR.cells)
  each : ∀ t, t ∈ trs → RowAt B w t.a 1 (t.l.map bC)
  len : trs.length ≤ 5864062014805
theorem TrAt.to {B : Nat} {w w' : World} {a : Option Addr} {trs : List TR} (h : TrAt B w a trs) (hb : Below B w w') : TrAt B w' a trs := ⟨h.row.to hb, fun t ht => (h.each t ht).to hb, h.len⟩
theorem TrAt.mono {B B' : Nat} {w : World} {a : Option Addr} {trs : List TR} (h : TrAt B w a trs) (hb : B ≤ B') : TrAt B' w a trs := ⟨h.row.mono hb, fun t ht => (h.each t ht).mono hb, h.len⟩

theorem grOk_parts {G : GrD} (h : GrOk G = true) : G.small ∧ AndsIn G ∧ LatsIn G (1 + G.ins.toNat + G.lats.length + G.ands.length) ∧ OutsIn G (1 + G.ins.toNat + G.lats.length + G.ands.length) := by
  unfold GrOk at h
  simp only [Bool.and_eq_true, decide_eq_true_eq] at h
  obtain ⟨⟨⟨hs, ha⟩, hl⟩, ho⟩ := h
  have g0 := hs.1
  have hv : G.vars = (((1 + G.ins.toNat + G.lats.length + G.ands.length) : Nat) : Int) := by unfold GrD.vars GrD.first; omega
  refine ⟨hs, fun k d hd => ?_, fun k d hd => ?_, fun k l hl' => ?_⟩
  · have hk : k < G.ands.length := (List.getElem?_eq_some_iff.1 hd).1
    have := List.all_eq_true.1 ha k (List.mem_range.2 hk)
    rw [andOk_of hd] at this
    simp only [litOk, Bool.and_eq_true, decide_eq_true_eq] at this
    have hf : G.first + (k : Int) = ((1 + G.ins.toNat + G.lats.length + k : Nat) : Int) := by unfold GrD.first; omega
    rw [hf] at this
    exact this
  · have := List.all_eq_true.1 hl d (List.mem_of_getElem? hd)
    simp only [latOk, litOk, decide_eq_true_eq, hv] at this
    exact this
  · have := List.all_eq_true.1 ho l (List.mem_of_getElem? hl')
    simp only [litOk, decide_eq_true_eq, hv] at this
    exact this


theorem BS.nonneg {w : World} {v : Value} {l : List Bool} (h : BS w v l) : ∃ a c, v = .slice a l.length c := by
  obtain ⟨a, c, hv, -⟩ := h.row
  exact ⟨a, c, hv⟩
theorem sameBS (w : World) (v1 v2 : Value) (l : List Bool) (hl : l.length < big) (h1 : BS w v1 l) (h2 : BS w v2 l) :
    Calls Try.prog 13 #[v1, v2] w fun e w' => e = .returned (.bool true) ∧ Below w.heap.size w w' := by
  obtain ⟨a1, c1, rfl, r1⟩ := h1.row
  obtain ⟨a2, c2, rfl, r2⟩ := h2.row
  refine (sameBools_any w a1 a2 c1 c2 l hl r1 r2).mono ?_
  rintro e w' ⟨rfl, q, rfl⟩
  exact ⟨rfl, Below.drewN (Below.refl _ _) _⟩
theorem nextBS (B : Nat) (w : World) (S : GrS) (G : GrD) (h : GrAt B w S G) (hB : B ≤ w.heap.size) (hok : GrOk G = true) (row st : List Bool) (rv sv : Value) (hr : BS w rv row) (hs : BS w sv st) (hst : st.length = G.lats.length) :
    Calls Try.prog 16 #[.agg (S.cells G), rv, sv] w fun e w' => ∃ vn vo, e = .returned (.tuple #[vn, vo]) ∧ BS w' vn (nextN G (cycN G row st)) ∧ BS w' vo (outN G (cycN G row st)) ∧ Below w.heap.size w w' := by
  obtain ⟨g0, ga, gl, go⟩ := grOk_parts hok
  obtain ⟨a1, c1, rfl, r1⟩ := hr.row
  refine (next_any w.heap.size w S G (h.mono hB) (Nat.le_refl _) g0 ga gl go row st hst a1 c1 r1 sv hs).mono ?_
  rintro e w' ⟨vn, vo, rfl, hn, ho, hb⟩
  exact ⟨vn, vo, rfl, BS.of hn, BS.of ho, hb⟩

set_option maxRecDepth 100000 in
set_option maxHeartbeats 8000000 in
theorem alike_any (B : Nat) (w : World) (S T : GrS) (G H : GrD) (h : GrAt B w S G) (hh : GrAt B w T H) (hB : B ≤ w.heap.size) (hok : GrOk G = true) (hkk : GrOk H = true) (e1 : H.ins = G.ins) (e2 : H.lats.length = G.lats.length) (e3 : H.outs.length = G.outs.length) (e4 : initN H = initN G)
    (e5 : ∀ row st : List Bool, st.length = G.lats.length → outN H (cycN H row st) = outN G (cycN G row st) ∧ nextN H (cycN H row st) = nextN G (cycN G row st)) (ta : Option Addr) (tc : Nat) (trs : List TR) (ht : TrAt B w ta trs) :
    Calls Try.prog 9 #[.agg (S.cells G), .agg (T.cells H), .slice ta trs.length tc] w fun e w' => e = .returned (.bool true) ∧ Below w.heap.size w w' := by
  obtain ⟨hsm, -, -, -⟩ := grOk_parts hok
  obtain ⟨g0, g1, g2, g3, g4⟩ := hsm
  have STG0 : Hid (∀ w', Below w.heap.size w w' → Calls Try.prog 14 #[.agg (S.cells G)] w' fun e w'' => ∃ v, e = .returned v ∧ BS w'' v (initN G) ∧ Below w'.heap.size w' w'') := fun w' hw' => by
    refine (states_any B w' S G (h.to (hw'.mono hB)) (Nat.le_trans hB hw'.size)).mono ?_
    rintro e w'' ⟨v, rfl, ho, hb⟩
    exact ⟨v, rfl, BS.of ho, hb⟩
  have STH0 : Hid (∀ w', Below w.heap.size w w' → Calls Try.prog 14 #[.agg (T.cells H)] w' fun e w'' => ∃ v, e = .returned v ∧ BS w'' v (initN G) ∧ Below w'.heap.size w' w'') := fun w' hw' => by
    refine (states_any B w' T H (hh.to (hw'.mono hB)) (Nat.le_trans hB hw'.size)).mono ?_
    rintro e w'' ⟨v, rfl, ho, hb⟩
    rw [e4] at ho
    exact ⟨v, rfl, BS.of ho, hb⟩
  have NXG0 : Hid (∀ w', Below w.heap.size w w' → ∀ (row st : List Bool) (rv sv : Value), BS w' rv row → BS w' sv st → st.length = G.lats.length → Calls Try.prog 16 #[.agg (S.cells G), rv, sv] w' fun e w'' => ∃ vn vo, e = .returned (.tuple #[vn, vo]) ∧ BS w'' vn (nextN G (cycN G row st)) ∧ BS w'' vo (outN G (cycN G row st)) ∧ Below w'.heap.size w' w'') := fun w' hw' row st rv sv hr hs hst =>
    nextBS B w' S G (h.to (hw'.mono hB)) (Nat.le_trans hB hw'.size) hok row st rv sv hr hs hst
  have NXH0 : Hid (∀ w', Below w.heap.size w w' → ∀ (row st : List Bool) (rv sv : Value), BS w' rv row → BS w' sv st → st.length = G.lats.length → Calls Try.prog 16 #[.agg (T.cells H), rv, sv] w' fun e w'' => ∃ vn vo, e = .returned (.tuple #[vn, vo]) ∧ BS w'' vn (nextN G (cycN G row st)) ∧ BS w'' vo (outN G (cycN G row st)) ∧ Below w'.heap.size w' w'') := fun w' hw' row st rv sv hr hs hst => by
    have := nextBS B w' T H (hh.to (hw'.mono hB)) (Nat.le_trans hB hw'.size) hkk row st rv sv hr hs (hst.trans e2.symm)
    rw [(e5 row st hst).1, (e5 row st hst).2] at this
    exact this
  have HNL0 : Hid (∀ row st : List Bool, (nextN G (cycN G row st)).length = G.lats.length) := fun row st => by unfold nextN; simp
  have HOL0 : Hid (∀ row st : List Bool, (outN G (cycN G row st)).length = G.outs.length) := fun row st => by unfold outN; simp
  have HIL0 : Hid ((initN G).length = G.lats.length) := by show _ = _; unfold initN; simp
  have SB : Hid (∀ (w : World) (v1 v2 : Value) (l : List Bool), l.length < big → BS w v1 l → BS w v2 l → Calls Try.prog 13 #[v1, v2] w fun e w' => e = .returned (.bool true) ∧ Below w.heap.size w w') := sameBS
  have SA0 : Hid (∀ (t : TR), t ∈ trs → ∀ w', Below w.heap.size w w' → ∀ (f n : Nat), f ≤ 60000 → n ≤ 60000 → Calls Try.prog 15 #[.slice t.a t.l.length t.c, .int .i64 f, .int .i64 n] w' fun e w'' => ∃ v, e = .returned v ∧ BS w'' v (stOf t.l f n) ∧ Below w'.heap.size w' w'') := fun t htm w' hw' f n hf hn => by
    refine (state_any B w' t.a t.c t.l f n ((ht.each t htm).to (hw'.mono hB)) (Nat.le_trans hB hw'.size) hf hn).mono ?_
    rintro e w'' ⟨v, rfl, ho, hb⟩
    exact ⟨v, rfl, BS.of ho, hb⟩
  have HT : Hid (RowAt B w ta 1 (trs.map TR.cells)) := ht.row
  have hlen := ht.len
  obtain ⟨ni, hni, hnl⟩ : ∃ n : Nat, G.ins = (n : Int) ∧ n ≤ 60000 := ⟨G.ins.toNat, by omega, by omega⟩
  unfold GrS.cells at *
  rw [e1, e2, e3] at *
  generalize nextN G = nx0 at *
  generalize outN G = ox0 at *
  generalize cycN G = cy0 at *
  generalize initN G = i0 at *
  rw [hni] at *
  generalize G.lats.length = nl at *
  generalize G.outs.length = no at *
  generalize G.ands.length = ga at *
  generalize H.ands.length = ha at *
  obtain ⟨nx, hnx⟩ : ∃ f : List Bool → List Bool → List Bool, f = fun row st => nx0 (cy0 row st) := ⟨_, rfl⟩
  obtain ⟨ox, hox⟩ : ∃ f : List Bool → List Bool → List Bool, f = fun row st => ox0 (cy0 row st) := ⟨_, rfl⟩
  have STG : Hid (∀ w', Below w.heap.size w w' → Calls Try.prog 14 #[.agg #[.int .i64 ni, .slice S.a1 nl S.c1, .slice S.a2 ga S.c2, .slice S.a3 no S.c3]] w' fun e w'' => ∃ v, e = .returned v ∧ BS w'' v i0 ∧ Below w'.heap.size w' w'') := STG0.out
  have STH : Hid (∀ w', Below w.heap.size w w' → Calls Try.prog 14 #[.agg #[.int .i64 ni, .slice T.a1 nl T.c1, .slice T.a2 ha T.c2, .slice T.a3 no T.c3]] w' fun e w'' => ∃ v, e = .returned v ∧ BS w'' v i0 ∧ Below w'.heap.size w' w'') := STH0.out
  have NXG : Hid (∀ w', Below w.heap.size w w' → ∀ (row st : List Bool) (rv sv : Value), BS w' rv row → BS w' sv st → st.length = nl → Calls Try.prog 16 #[.agg #[.int .i64 ni, .slice S.a1 nl S.c1, .slice S.a2 ga S.c2, .slice S.a3 no S.c3], rv, sv] w' fun e w'' => ∃ vn vo, e = .returned (.tuple #[vn, vo]) ∧ BS w'' vn (nx row st) ∧ BS w'' vo (ox row st) ∧ Below w'.heap.size w' w'') := by rw [hnx, hox]; exact NXG0.out
  have NXH : Hid (∀ w', Below w.heap.size w w' → ∀ (row st : List Bool) (rv sv : Value), BS w' rv row → BS w' sv st → st.length = nl → Calls Try.prog 16 #[.agg #[.int .i64 ni, .slice T.a1 nl T.c1, .slice T.a2 ha T.c2, .slice T.a3 no T.c3], rv, sv] w' fun e w'' => ∃ vn vo, e = .returned (.tuple #[vn, vo]) ∧ BS w'' vn (nx row st) ∧ BS w'' vo (ox row st) ∧ Below w'.heap.size w' w'') := by rw [hnx, hox]; exact NXH0.out
  have HNL : Hid (∀ row st : List Bool, (nx row st).length = nl) := by rw [hnx]; exact HNL0.out
  have HOL : Hid (∀ row st : List Bool, (ox row st).length = no) := by rw [hox]; exact HOL0.out
  have HIL : Hid (i0.length = nl) := HIL0.out
  clear h hh ht hok hkk e4 e5 STG0 STH0 NXG0 NXH0 HNL0 HOL0 HIL0 hnx hox g0 g1 g4
  clear e1 e2 e3
  try clear hni
  go_enter Try.func9, Try.ntmps9
  go_upto_region 1 with fail
  generalize hW : World.alloc (World.alloc w _) _ = W
  have HBW : Hid (Below w.heap.size w W) := by rw [← hW]; exact ((Below.refl _ _).alloc (Nat.le_refl _) _).alloc (by simp) _
  have HG4 : Hid (∀ j, W.cell? ⟨w.heap.size, j, none⟩ = (#[.int .i64 ni, .slice S.a1 nl S.c1, .slice S.a2 ga S.c2, .slice S.a3 no S.c3] : Array Value)[j]?) := by
    rw [← hW]; intro j
    rw [World.cell?_alloc_lt _ _ _ (by simp)]; exact cell_new rfl
  have HH4 : Hid (∀ j, W.cell? ⟨w.heap.size + 1, j, none⟩ = (#[.int .i64 ni, .slice T.a1 nl T.c1, .slice T.a2 ha T.c2, .slice T.a3 no T.c3] : Array Value)[j]?) := by
    rw [← hW]; intro j
    exact cell_new (by simp)
  have HSZ : Hid (w.heap.size + 2 ≤ W.heap.size) := by show _ ≤ _; rw [← hW]; simp
  obtain ⟨gx, hgx⟩ : ∃ x, x = w.heap.size := ⟨_, rfl⟩
  obtain ⟨hx, hhx⟩ : ∃ x, x = w.heap.size + 1 := ⟨_, rfl⟩
  rw [← hgx] at HG4
  rw [← hhx] at HH4
  have hxl : hx < W.heap.size := by have := HSZ.out; omega
  have hgl : gx < W.heap.size := by have := HSZ.out; omega
  rw [← hhx, ← hgx]
  try clear hW hhx HSZ
  have h0 := HH4.out 0
  have h1 := HH4.out 1
  have h2 := HH4.out 2
  have h3 := HH4.out 3
  have q0 := HG4.out 0
  have q1 := HG4.out 1
  have q2 := HG4.out 2
  have q3 := HG4.out 3
  simp at h0 h1 h2 h3 q0 q1 q2 q3
  have HBgx : Hid (B ≤ w.heap.size) := hB
  clear hB hgx
  have K8 : Hid (∀ w', Below W.heap.size W w' → w'.cell? ⟨hx, 0, none⟩ = some (.int .i64 ni) ∧ w'.cell? ⟨hx, 1, none⟩ = some (.slice T.a1 nl T.c1) ∧ w'.cell? ⟨hx, 2, none⟩ = some (.slice T.a2 ha T.c2) ∧ w'.cell? ⟨hx, 3, none⟩ = some (.slice T.a3 no T.c3) ∧ w'.cell? ⟨gx, 0, none⟩ = some (.int .i64 ni) ∧ w'.cell? ⟨gx, 1, none⟩ = some (.slice S.a1 nl S.c1) ∧ w'.cell? ⟨gx, 2, none⟩ = some (.slice S.a2 ga S.c2) ∧ w'.cell? ⟨gx, 3, none⟩ = some (.slice S.a3 no S.c3)) := fun w' hb => ⟨(hb.cell (p := ⟨hx, 0, none⟩) hxl).trans h0, (hb.cell (p := ⟨hx, 1, none⟩) hxl).trans h1, (hb.cell (p := ⟨hx, 2, none⟩) hxl).trans h2, (hb.cell (p := ⟨hx, 3, none⟩) hxl).trans h3, (hb.cell (p := ⟨gx, 0, none⟩) hgl).trans q0, (hb.cell (p := ⟨gx, 1, none⟩) hgl).trans q1, (hb.cell (p := ⟨gx, 2, none⟩) hgl).trans q2, (hb.cell (p := ⟨gx, 3, none⟩) hgl).trans q3⟩
  clear HG4 HH4
  go_upto_region 3 with fail
  (
  refine wp_region_noPanic ?_
  refine wp_region_held_drew (S := (fun w' => w'.cell? ⟨hx, 0, none⟩ = some (.int .i64 ni) ∧ w'.cell? ⟨hx, 1, none⟩ = some (.slice T.a1 nl T.c1) ∧ w'.cell? ⟨hx, 2, none⟩ = some (.slice T.a2 ha T.c2) ∧ w'.cell? ⟨hx, 3, none⟩ = some (.slice T.a3 no T.c3) ∧ w'.cell? ⟨gx, 0, none⟩ = some (.int .i64 ni) ∧ w'.cell? ⟨gx, 1, none⟩ = some (.slice S.a1 nl S.c1) ∧ w'.cell? ⟨gx, 2, none⟩ = some (.slice S.a2 ga S.c2) ∧ w'.cell? ⟨gx, 3, none⟩ = some (.slice S.a3 no S.c3))) (by kernel_rfl) (by first | assumption | exact ⟨h0, h1, h2, h3, q0, q1, q2, q3⟩ | exact K8.out _ (by assumption)) (fun hHeld => ?_)
  refine wpAnyH_take (i := 0) (oi := _) (v := ?_) rfl (by kernel_rfl) (by kernel_rfl) (by kernel_rfl) (fun _ _ _ h => h) (Or.inl ⟨by rfl, ?_⟩) (by assumption) ?_
  rotate_left
  · (intro w0 hSw; (try dsimp only at hSw); (try simp only [List.getElem_toArray, List.getElem_cons_zero]); go_simp; try (with_reducible rfl))
  try simp only [Act.put, List.getElem_toArray, List.getElem_cons_zero, List.setIfInBounds_toArray, List.set_cons_zero, List.set_cons_succ]
  refine wpAnyH_take (i := 2) (oi := _) (v := ?_) rfl (by kernel_rfl) (by kernel_rfl) (by kernel_rfl) (fun _ _ _ h => h) (Or.inl ⟨by rfl, ?_⟩) (by assumption) ?_
  rotate_left
  · (intro w0 hSw; (try dsimp only at hSw); (try simp only [List.getElem_toArray, List.getElem_cons_zero, List.getElem_cons_succ]); go_simp; try (with_reducible rfl))
  try simp only [Act.put, List.getElem_toArray, List.getElem_cons_zero, List.getElem_cons_succ, List.setIfInBounds_toArray, List.set_cons_zero, List.set_cons_succ]
  refine wpAnyH_ready (rs := [1]) (by kernel_rfl) (by simp) ?_
  refine AllReadyH.cons (o := _) rfl (fun K hK => ?_) AllReadyH.nil
  (try simp only [List.getElem_toArray, List.getElem_cons_zero, List.getElem_cons_succ])
  go_simp
  go_at_call 14
  refine (STG.out _ (Below.drew HBW.out)).mono ?_
  rintro e w3 ⟨v3, rfl, ho3, hb3⟩
  replace hb3 : Below W.heap.size W w3 := (Below.drew (Below.refl W.heap.size W)).trans hb3
  have HO3 := hidden ho3
  clear ho3
  go_wp2_with fail
  refine hK.out _ _ (by first | assumption | exact ⟨h0, h1, h2, h3, q0, q1, q2, q3⟩ | exact K8.out _ (by assumption)) (fun hHeld1 => ?_)
  clear hK K
  try simp only [Act.put, List.setIfInBounds_toArray, List.set_cons_zero, List.set_cons_succ]
  refine wpAnyH_ready (rs := [3]) (by kernel_rfl) (by simp) ?_
  refine AllReadyH.cons (o := _) rfl (fun K hK => ?_) AllReadyH.nil
  (try simp only [List.getElem_toArray, List.getElem_cons_zero, List.getElem_cons_succ])
  go_simp
  go_at_call 14
  refine (STH.out _ (HBW.out.trans (hb3.mono HBW.out.size))).mono ?_
  rintro e w4 ⟨v4, rfl, ho4, hb4⟩
  have HO4 := hidden ho4
  have HO34 := hidden (HO3.out.to hb4)
  replace hb4 : Below W.heap.size W w4 := hb3.trans (hb4.mono hb3.size)
  clear ho4
  go_wp2_with fail
  refine hK.out _ _ (by first | assumption | exact ⟨h0, h1, h2, h3, q0, q1, q2, q3⟩ | exact K8.out _ (by assumption)) (fun hHeld2 => ?_)
  clear hK K
  try simp only [Act.put, List.setIfInBounds_toArray, List.set_cons_zero, List.set_cons_succ]
  refine wpAnyH_ready (rs := [4]) (by kernel_rfl) (by simp) ?_
  refine AllReadyH.cons (o := _) rfl (fun K hK => ?_) AllReadyH.nil
  (try simp only [List.getElem_toArray, List.getElem_cons_zero, List.getElem_cons_succ])
  go_simp
  go_at_call 13
  refine (SB.out w4 v3 v4 i0 (by rw [HIL.out]; simp only [big]; omega) HO34.out HO4.out).mono ?_
  rintro e w5 ⟨rfl, hb5⟩
  replace hb5 : Below W.heap.size W w5 := hb4.trans (hb5.mono hb4.size)
  go_wp2_with fail
  refine hK.out _ _ (by first | assumption | exact ⟨h0, h1, h2, h3, q0, q1, q2, q3⟩ | exact K8.out _ (by assumption)) (fun hHeld3 => ?_)
  clear hK K
  try simp only [Act.put, List.setIfInBounds_toArray, List.set_cons_zero, List.set_cons_succ]
  refine wpAnyH_take (i := 5) (oi := _) (v := ?_) rfl (by kernel_rfl) (by kernel_rfl) (by kernel_rfl) (fun _ _ _ h => h) (Or.inl ⟨by rfl, ?_⟩) (by assumption) ?_
  rotate_left
  · (intro w0 hSw; (try dsimp only at hSw); (try simp only [List.getElem_toArray, List.getElem_cons_zero, List.getElem_cons_succ]); go_simp; try (with_reducible rfl))
  try simp only [Act.put, List.getElem_toArray, List.getElem_cons_zero, List.getElem_cons_succ, List.setIfInBounds_toArray, List.set_cons_zero, List.set_cons_succ]
  refine wpAnyH_done (by kernel_rfl) ?_ _
  refine NoPanic.normal ?_
  )
  have HB5 := hidden hb5
  clear hb3 hb4 hb5 HO3 HO4 HO34
  try clear hHeld
  try clear hHeld1
  try clear hHeld2
  try clear hHeld3
  clear h0 h1 h2 h3 q0 q1 q2 q3 STG STH
  have HTW : Hid (RowAt W.heap.size W ta 1 (trs.map TR.cells)) := (HT.out.to (by have := HBW.out.mono (HBgx.out); exact this)).mono (Nat.le_trans HBgx.out HBW.out.size)
  clear HT
  go_wp2_with fail
  go_loopw [8] (fun i' w' => ∃ (k : Nat), k ≤ trs.length ∧ i' = .int .i64 k ∧ Hid (Below W.heap.size W w')) (fun i' _ => trs.length - (intOf i').toNat)
  case atStart => exact ⟨0, Nat.zero_le _, rfl, HB5.out⟩
  case round =>
    obtain ⟨k, hk, rfl, HBrW⟩ := hrel
    clear HB5
    have HBr : Hid (Below w.heap.size w wr) := HBW.out.trans (HBrW.out.mono HBW.out.size)
    by_cases hlt : k < trs.length
    · obtain ⟨t, hz⟩ := getElem_lt hlt
      obtain ⟨tb, tz, ea, htb, htc⟩ := HTW.out.el hz
      subst ea
      have hltI : (k : Int) < (trs.length : Int) := by omega
      have e3 : IntKind.i64.wrap ((k : Int) + 1) = (k : Int) + 1 := wrapI _ (by omega) (by omega)
      have c0 : W.cell? ⟨tb, tz + k, none⟩ = some (.slice t.a t.l.length t.c) := by have := htc 0 _ rfl; simpa using this
      have SA1 := hidden (SA0.out t (List.mem_of_getElem? hz))
      obtain ⟨rs, HRS⟩ : ∃ f : Nat → Nat → List Bool, Hid (stOf t.l = f) := ⟨_, rfl⟩
      have HRL : Hid (∀ f n, (rs f n).length = n) := fun f n => by rw [← HRS.out]; exact stOf_length _ _ _
      rw [HRS.out] at SA1
      clear hz htc HRS
      generalize t.l.length = tl at *
      generalize t.a = tA at *
      generalize t.c = tC at *
      have SA : Hid (∀ w', Below w.heap.size w w' → ∀ (f n : Nat), f ≤ 60000 → n ≤ 60000 → Calls Try.prog 15 #[.slice tA tl tC, .int .i64 f, .int .i64 n] w' fun e w'' => ∃ v, e = .returned v ∧ BS w'' v (rs f n) ∧ Below w'.heap.size w' w'') := SA1.out
      clear SA1
      have K3W : Hid (∀ w', Below W.heap.size W w' → w'.cell? ⟨tb, tz + k, none⟩ = some (.slice tA tl tC) ∧ w'.cell? ⟨gx, 0, none⟩ = some (.int .i64 ni) ∧ w'.cell? ⟨gx, 1, none⟩ = some (.slice S.a1 nl S.c1)) := fun w' hb => ⟨(hb.cell (p := ⟨tb, tz + k, none⟩) htb).trans c0, (K8.out w' hb).2.2.2.2.1, (K8.out w' hb).2.2.2.2.2.1⟩
      have K3r : Hid (∀ w', Below wr.heap.size wr w' → w'.cell? ⟨tb, tz + k, none⟩ = some (.slice tA tl tC) ∧ w'.cell? ⟨gx, 0, none⟩ = some (.int .i64 ni) ∧ w'.cell? ⟨gx, 1, none⟩ = some (.slice S.a1 nl S.c1)) := fun w' hb => K3W.out w' (HBrW.out.trans (hb.mono HBrW.out.size))
      clear c0
      go_wp2_with fail
      (
      refine wp_region_noPanic ?_
      refine wp_region_held_drew (S := (fun w' => w'.cell? ⟨tb, tz + k, none⟩ = some (.slice tA tl tC) ∧ w'.cell? ⟨gx, 0, none⟩ = some (.int .i64 ni) ∧ w'.cell? ⟨gx, 1, none⟩ = some (.slice S.a1 nl S.c1))) (by kernel_rfl) (by first | assumption | exact K3r.out _ (by assumption) | exact K3r.out _ (Below.refl _ _) | exact K3r.out _ (Below.drew (Below.refl _ _))) (fun hHeld => ?_)
      refine wpAnyH_take (i := 0) (oi := _) (v := ?_) rfl (by kernel_rfl) (by kernel_rfl) (by kernel_rfl) (fun _ _ _ h => h) (Or.inl ⟨by rfl, ?_⟩) (by assumption) ?_
      rotate_left
      · (intro w0 hSw; (try dsimp only at hSw); (try simp only [List.getElem_toArray, List.getElem_cons_zero]); go_simp; try (with_reducible rfl))
      try simp only [Act.put, List.getElem_toArray, List.getElem_cons_zero, List.setIfInBounds_toArray, List.set_cons_zero, List.set_cons_succ]
      refine wpAnyH_take (i := 1) (oi := _) (v := ?_) rfl (by kernel_rfl) (by kernel_rfl) (by kernel_rfl) (fun _ _ _ h => h) (Or.inl ⟨by rfl, ?_⟩) (by assumption) ?_
      rotate_left
      · (intro w0 hSw; (try dsimp only at hSw); (try simp only [List.getElem_toArray, List.getElem_cons_zero, List.getElem_cons_succ]); go_simp; try (with_reducible rfl))
      try simp only [Act.put, List.getElem_toArray, List.getElem_cons_zero, List.getElem_cons_succ, List.setIfInBounds_toArray, List.set_cons_zero, List.set_cons_succ]
      refine wpAnyH_take (i := 2) (oi := _) (v := ?_) rfl (by kernel_rfl) (by kernel_rfl) (by kernel_rfl) (fun _ _ _ h => h) (Or.inl ⟨by rfl, ?_⟩) (by assumption) ?_
      rotate_left
      · (intro w0 hSw; (try dsimp only at hSw); (try simp only [List.getElem_toArray, List.getElem_cons_zero, List.getElem_cons_succ]); go_simp; try (with_reducible rfl))
      try simp only [Act.put, List.getElem_toArray, List.getElem_cons_zero, List.getElem_cons_succ, List.setIfInBounds_toArray, List.set_cons_zero, List.set_cons_succ]
      refine wpAnyH_take (i := 3) (oi := _) (v := ?_) rfl (by kernel_rfl) (by kernel_rfl) (by kernel_rfl) (fun _ _ _ h => h) (Or.inl ⟨by rfl, ?_⟩) (by assumption) ?_
      rotate_left
      · (intro w0 hSw; (try dsimp only at hSw); (try simp only [List.getElem_toArray, List.getElem_cons_zero, List.getElem_cons_succ]); go_simp; try (with_reducible rfl))
      try simp only [Act.put, List.getElem_toArray, List.getElem_cons_zero, List.getElem_cons_succ, List.setIfInBounds_toArray, List.set_cons_zero, List.set_cons_succ]
      refine wpAnyH_take (i := 4) (oi := _) (v := ?_) rfl (by kernel_rfl) (by kernel_rfl) (by kernel_rfl) (fun _ _ _ h => h) (Or.inl ⟨by rfl, ?_⟩) (by assumption) ?_
      rotate_left
      · (intro w0 hSw; (try dsimp only at hSw); (try simp only [List.getElem_toArray, List.getElem_cons_zero, List.getElem_cons_succ]); go_simp; try (with_reducible rfl))
      try simp only [Act.put, List.getElem_toArray, List.getElem_cons_zero, List.getElem_cons_succ, List.setIfInBounds_toArray, List.set_cons_zero, List.set_cons_succ]
      refine wpAnyH_take (i := 5) (oi := _) (v := ?_) rfl (by kernel_rfl) (by kernel_rfl) (by kernel_rfl) (fun _ _ _ h => h) (Or.inl ⟨by rfl, ?_⟩) (by assumption) ?_
      rotate_left
      · (intro w0 hSw; (try dsimp only at hSw); (try simp only [List.getElem_toArray, List.getElem_cons_zero, List.getElem_cons_succ]); go_simp; try (with_reducible rfl))
      try simp only [Act.put, List.getElem_toArray, List.getElem_cons_zero, List.getElem_cons_succ, List.setIfInBounds_toArray, List.set_cons_zero, List.set_cons_succ]
      refine wpAnyH_ready (rs := [6]) (by kernel_rfl) (by simp) ?_
      refine AllReadyH.cons (o := _) rfl (fun K hK => ?_) AllReadyH.nil
      (try simp only [List.getElem_toArray, List.getElem_cons_zero, List.getElem_cons_succ])
      go_simp
      go_at_call 15
      refine (SA.out _ (Below.drew HBr.out) 0 ni (by omega) hnl).mono ?_
      rintro e x9 ⟨v9, rfl, ho9, hb9⟩
      replace hb9 : Below wr.heap.size wr x9 := (Below.drew (Below.refl wr.heap.size wr)).trans hb9
      have HO9 := hidden ho9
      clear ho9
      go_wp2_with fail
      refine hK.out _ _ (by first | assumption | exact K3r.out _ (by assumption) | exact K3r.out _ (Below.refl _ _) | exact K3r.out _ (Below.drew (Below.refl _ _))) (fun hHeld1 => ?_)
      clear hK K
      try simp only [Act.put, List.setIfInBounds_toArray, List.set_cons_zero, List.set_cons_succ]
      refine wpAnyH_take (i := 7) (oi := _) (v := ?_) rfl (by kernel_rfl) (by kernel_rfl) (by kernel_rfl) (fun _ _ _ h => h) (Or.inl ⟨by rfl, ?_⟩) (by assumption) ?_
      rotate_left
      · (intro w0 hSw; (try dsimp only at hSw); (try simp only [List.getElem_toArray, List.getElem_cons_zero, List.getElem_cons_succ]); go_simp; try (with_reducible rfl))
      try simp only [Act.put, List.getElem_toArray, List.getElem_cons_zero, List.getElem_cons_succ, List.setIfInBounds_toArray, List.set_cons_zero, List.set_cons_succ]
      refine wpAnyH_done (by kernel_rfl) ?_ _
      refine NoPanic.normal ?_
      )
      have HB9 := hidden hb9
      have HBr9 : Hid (Below w.heap.size w x9) := HBr.out.trans (hb9.mono HBr.out.size)
      have HBW9 : Hid (Below W.heap.size W x9) := HBrW.out.trans (hb9.mono HBrW.out.size)
      have K3s : Hid (∀ w', Below x9.heap.size x9 w' → w'.cell? ⟨tb, tz + k, none⟩ = some (.slice tA tl tC) ∧ w'.cell? ⟨gx, 0, none⟩ = some (.int .i64 ni) ∧ w'.cell? ⟨gx, 1, none⟩ = some (.slice S.a1 nl S.c1)) := fun w' hb => K3W.out w' (HBW9.out.trans (hb.mono HBW9.out.size))
      clear hb9 K3r
      try clear hHeld
      try clear hHeld1
      go_upto_region 10 with fail
      (
      refine wp_region_noPanic ?_
      refine wp_region_held_drew (S := (fun w' => w'.cell? ⟨tb, tz + k, none⟩ = some (.slice tA tl tC) ∧ w'.cell? ⟨gx, 0, none⟩ = some (.int .i64 ni) ∧ w'.cell? ⟨gx, 1, none⟩ = some (.slice S.a1 nl S.c1))) (by kernel_rfl) (by first | assumption | exact K3s.out _ (by assumption) | exact K3s.out _ (Below.refl _ _) | exact K3s.out _ (Below.drew (Below.refl _ _))) (fun hHeld => ?_)
      refine wpAnyH_take (i := 0) (oi := _) (v := ?_) rfl (by kernel_rfl) (by kernel_rfl) (by kernel_rfl) (fun _ _ _ h => h) (Or.inl ⟨by rfl, ?_⟩) (by assumption) ?_
      rotate_left
      · (intro w0 hSw; (try dsimp only at hSw); (try simp only [List.getElem_toArray, List.getElem_cons_zero]); go_simp; try (with_reducible rfl))
      try simp only [Act.put, List.getElem_toArray, List.getElem_cons_zero, List.setIfInBounds_toArray, List.set_cons_zero, List.set_cons_succ]
      refine wpAnyH_take (i := 1) (oi := _) (v := ?_) rfl (by kernel_rfl) (by kernel_rfl) (by kernel_rfl) (fun _ _ _ h => h) (Or.inl ⟨by rfl, ?_⟩) (by assumption) ?_
      rotate_left
      · (intro w0 hSw; (try dsimp only at hSw); (try simp only [List.getElem_toArray, List.getElem_cons_zero, List.getElem_cons_succ]); go_simp; try (with_reducible rfl))
      try simp only [Act.put, List.getElem_toArray, List.getElem_cons_zero, List.getElem_cons_succ, List.setIfInBounds_toArray, List.set_cons_zero, List.set_cons_succ]
      refine wpAnyH_take (i := 2) (oi := _) (v := ?_) rfl (by kernel_rfl) (by kernel_rfl) (by kernel_rfl) (fun _ _ _ h => h) (Or.inl ⟨by rfl, ?_⟩) (by assumption) ?_
      rotate_left
      · (intro w0 hSw; (try dsimp only at hSw); (try simp only [List.getElem_toArray, List.getElem_cons_zero, List.getElem_cons_succ]); go_simp; try (with_reducible rfl))
      try simp only [Act.put, List.getElem_toArray, List.getElem_cons_zero, List.getElem_cons_succ, List.setIfInBounds_toArray, List.set_cons_zero, List.set_cons_succ]
      refine wpAnyH_take (i := 3) (oi := _) (v := ?_) rfl (by kernel_rfl) (by kernel_rfl) (by kernel_rfl) (fun _ _ _ h => h) (Or.inl ⟨by rfl, ?_⟩) (by assumption) ?_
      rotate_left
      · (intro w0 hSw; (try dsimp only at hSw); (try simp only [List.getElem_toArray, List.getElem_cons_zero, List.getElem_cons_succ]); go_simp; try (with_reducible rfl))
      try simp only [Act.put, List.getElem_toArray, List.getElem_cons_zero, List.getElem_cons_succ, List.setIfInBounds_toArray, List.set_cons_zero, List.set_cons_succ]
      refine wpAnyH_take (i := 4) (oi := _) (v := ?_) rfl (by kernel_rfl) (by kernel_rfl) (by kernel_rfl) (fun _ _ _ h => h) (Or.inl ⟨by rfl, ?_⟩) (by assumption) ?_
      rotate_left
      · (intro w0 hSw; (try dsimp only at hSw); (try simp only [List.getElem_toArray, List.getElem_cons_zero, List.getElem_cons_succ]); go_simp; try (with_reducible rfl))
      try simp only [Act.put, List.getElem_toArray, List.getElem_cons_zero, List.getElem_cons_succ, List.setIfInBounds_toArray, List.set_cons_zero, List.set_cons_succ]
      refine wpAnyH_take (i := 5) (oi := _) (v := ?_) rfl (by kernel_rfl) (by kernel_rfl) (by kernel_rfl) (fun _ _ _ h => h) (Or.inl ⟨by rfl, ?_⟩) (by assumption) ?_
      rotate_left
      · (intro w0 hSw; (try dsimp only at hSw); (try simp only [List.getElem_toArray, List.getElem_cons_zero, List.getElem_cons_succ]); go_simp; try (with_reducible rfl))
      try simp only [Act.put, List.getElem_toArray, List.getElem_cons_zero, List.getElem_cons_succ, List.setIfInBounds_toArray, List.set_cons_zero, List.set_cons_succ]
      refine wpAnyH_take (i := 6) (oi := _) (v := ?_) rfl (by kernel_rfl) (by kernel_rfl) (by kernel_rfl) (fun _ _ _ h => h) (Or.inl ⟨by rfl, ?_⟩) (by assumption) ?_
      rotate_left
      · (intro w0 hSw; (try dsimp only at hSw); (try simp only [List.getElem_toArray, List.getElem_cons_zero, List.getElem_cons_succ]); go_simp; try (with_reducible rfl))
      try simp only [Act.put, List.getElem_toArray, List.getElem_cons_zero, List.getElem_cons_succ, List.setIfInBounds_toArray, List.set_cons_zero, List.set_cons_succ]
      refine wpAnyH_take (i := 7) (oi := _) (v := ?_) rfl (by kernel_rfl) (by kernel_rfl) (by kernel_rfl) (fun _ _ _ h => h) (Or.inl ⟨by rfl, ?_⟩) (by assumption) ?_
      rotate_left
      · (intro w0 hSw; (try dsimp only at hSw); (try simp only [List.getElem_toArray, List.getElem_cons_zero, List.getElem_cons_succ]); go_simp; try (with_reducible rfl))
      try simp only [Act.put, List.getElem_toArray, List.getElem_cons_zero, List.getElem_cons_succ, List.setIfInBounds_toArray, List.set_cons_zero, List.set_cons_succ]
      refine wpAnyH_take (i := 8) (oi := _) (v := ?_) rfl (by kernel_rfl) (by kernel_rfl) (by kernel_rfl) (fun _ _ _ h => h) (Or.inl ⟨by rfl, ?_⟩) (by assumption) ?_
      rotate_left
      · (intro w0 hSw; (try dsimp only at hSw); (try simp only [List.getElem_toArray, List.getElem_cons_zero, List.getElem_cons_succ]); go_simp; try (with_reducible rfl))
      try simp only [Act.put, List.getElem_toArray, List.getElem_cons_zero, List.getElem_cons_succ, List.setIfInBounds_toArray, List.set_cons_zero, List.set_cons_succ]
      refine wpAnyH_ready (rs := [9]) (by kernel_rfl) (by simp) ?_
      refine AllReadyH.cons (o := _) rfl (fun K hK => ?_) AllReadyH.nil
      (try simp only [List.getElem_toArray, List.getElem_cons_zero, List.getElem_cons_succ])
      go_simp
      go_at_call 15
      refine (SA.out _ (Below.drew HBr9.out) ni nl hnl (by omega)).mono ?_
      rintro e x10 ⟨v10, rfl, ho10, hb10⟩
      replace hb10 : Below x9.heap.size x9 x10 := (Below.drew (Below.refl x9.heap.size x9)).trans hb10
      have HO10 := hidden ho10
      clear ho10
      go_wp2_with fail
      refine hK.out _ _ (by first | assumption | exact K3s.out _ (by assumption) | exact K3s.out _ (Below.refl _ _) | exact K3s.out _ (Below.drew (Below.refl _ _))) (fun hHeld1 => ?_)
      clear hK K
      try simp only [Act.put, List.setIfInBounds_toArray, List.set_cons_zero, List.set_cons_succ]
      refine wpAnyH_take (i := 10) (oi := _) (v := ?_) rfl (by kernel_rfl) (by kernel_rfl) (by kernel_rfl) (fun _ _ _ h => h) (Or.inl ⟨by rfl, ?_⟩) (by assumption) ?_
      rotate_left
      · (intro w0 hSw; (try dsimp only at hSw); (try simp only [List.getElem_toArray, List.getElem_cons_zero, List.getElem_cons_succ]); go_simp; try (with_reducible rfl))
      try simp only [Act.put, List.getElem_toArray, List.getElem_cons_zero, List.getElem_cons_succ, List.setIfInBounds_toArray, List.set_cons_zero, List.set_cons_succ]
      refine wpAnyH_done (by kernel_rfl) ?_ _
      refine NoPanic.normal ?_
      )
      try clear hHeld
      try clear hHeld1
      have HO910 := hidden (HO9.out.to hb10)
      have HBr10 : Hid (Below w.heap.size w x10) := HBr9.out.trans (hb10.mono HBr9.out.size)
      have HBW10 : Hid (Below W.heap.size W x10) := HBW9.out.trans (hb10.mono HBW9.out.size)
      obtain ⟨h0, h1, h2, h3, q0, q1, q2, q3⟩ := K8.out _ HBW10.out
      have NG := hidden (NXG.out x10 HBr10.out (rs 0 ni) (rs ni nl) v9 v10 HO910.out HO10.out (HRL.out _ _))
      clear hb10 K3s K3W HO9 SA
      go_wp2_with fail
      go_at_call 16
      refine NG.out.mono ?_
      rintro e x11 ⟨vn, vo, rfl, hn11, ho11, hb11⟩
      have HN11 := hidden hn11
      have HO11 := hidden ho11
      have HA11 := hidden (HO910.out.to hb11)
      have HS11 := hidden (HO10.out.to hb11)
      have HBr11 : Hid (Below w.heap.size w x11) := HBr10.out.trans (hb11.mono HBr10.out.size)
      have HBW11 : Hid (Below W.heap.size W x11) := HBW10.out.trans (hb11.mono HBW10.out.size)
      have NH := hidden (NXH.out x11 HBr11.out (rs 0 ni) (rs ni nl) v9 v10 HA11.out HS11.out (HRL.out _ _))
      clear hn11 ho11 hb11 NG HO910 HO10 h0 h1 h2 h3 q0 q1 q2 q3
      obtain ⟨h0, h1, h2, h3, q0, q1, q2, q3⟩ := K8.out _ HBW11.out
      go_wp2_with fail
      go_at_call 16
      refine NH.out.mono ?_
      rintro e x12 ⟨un, uo, rfl, hn12, ho12, hb12⟩
      have HBW12 : Hid (Below W.heap.size W x12) := HBW11.out.trans (hb12.mono HBW11.out.size)
      have S1 := hidden (SB.out x12 vn un _ (by rw [HNL.out]; simp only [big]; omega) (HN11.out.to hb12) hn12)
      have HO12 := hidden (HO11.out.to hb12)
      have HU12 := hidden ho12
      clear hn12 ho12 hb12 NH HA11 HS11 HN11 HO11 h0 h1 h2 h3 q0 q1 q2 q3
      go_wp2_with fail
      go_at_call 13
      refine S1.out.mono ?_
      rintro e x13 ⟨rfl, hb13⟩
      have HBW13 : Hid (Below W.heap.size W x13) := HBW12.out.trans (hb13.mono HBW12.out.size)
      have S2 := hidden (SB.out x13 vo uo _ (by rw [HOL.out]; simp only [big]; omega) (HO12.out.to hb13) (HU12.out.to hb13))
      clear hb13 S1 HO12 HU12
      go_wp2_with fail
      go_at_call 13
      refine S2.out.mono ?_
      rintro e x14 ⟨rfl, hb14⟩
      have HBW14 : Hid (Below W.heap.size W x14) := HBW13.out.trans (hb14.mono HBW13.out.size)
      clear hb14 S2
      go_wp2
      go_roundw
      case measure => simp [intOf]; omega
      case rel => exact ⟨k + 1, by omega, by simp, HBW14.out⟩
    · have hge : ¬ ((k : Int) < (trs.length : Int)) := by omega
      go_wp2
      go_ret
      exact ⟨rfl, HBr.out⟩

end Go.Proofs.Ytnooojmnaglboaa
