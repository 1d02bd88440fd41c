import Derived.Test.YtdiahnommkhkiaaDoorJ30
import Derived.Test.YtdiahnommkhkiaaDoorJ32
import Derived.Laws.BytesArg
import Derived.Laws.IdiomStrings
namespace Go.Proofs.YtdiahnommkhkiaaDoor
open Go.RowKit

theorem by_start {w : World} {r : Nat} {T : List UInt8} (h : RdAt w r ⟨1, 0, 0, 0, 0, 0, T, 0, 0, 0⟩) (hT : T.length ≤ 1048576) : ByAt w r T 0 (0, 0, 0, 0, 0) :=
  ⟨⟨0, 0, Nat.le_refl _, h⟩, Nat.zero_le _, hT⟩
def OutcomeB (T : List UInt8) (G : GrD) (c a : Int) : Prop := (GoodB T G ∧ c = 0 ∧ a = 0) ∨ (BadB T a ∧ G = zeroG ∧ c = 16)
theorem outcomeB_same {T : List UInt8} {G G' : GrD} {c a c' a' : Int} (x : OutcomeB T G c a) (y : OutcomeB T G' c' a') : G = G' ∧ c = c' ∧ a = a' := by
  rcases x with ⟨x1, x2, x3⟩ | ⟨x1, x2, x3⟩ <;> rcases y with ⟨y1, y2, y3⟩ | ⟨y1, y2, y3⟩
  · exact ⟨goodB_same x1 y1, by rw [x2, y2], by rw [x3, y3]⟩
  · exact absurd y1 (fun h => goodB_not x1 h)
  · exact absurd x1 (fun h => goodB_not y1 h)
  · exact ⟨by rw [x2, y2], by rw [x3, y3], badB_same x1 y1⟩
/-- bytes in memory -/
def BtAt (w : World) (a : Option Addr) (c : Nat) (T : List UInt8) : Prop := T.length ≤ c ∧ (T ≠ [] → ∃ b o, a = some ⟨b, o, none⟩ ∧ b < w.heap.size ∧ ∀ (j : Nat) (x : UInt8), T[j]? = some x → w.cell? ⟨b, o + j, none⟩ = some (.int .u8 (x.toNat : Int))) ∧ True
theorem BtAt.to {w w' : World} {a : Option Addr} {c : Nat} {T : List UInt8} (h : BtAt w a c T) (hb : Below w.heap.size w w') : BtAt w' a c T := by
  refine ⟨h.1, fun hT => ?_, trivial⟩
  obtain ⟨b, o, h1, h2, h3⟩ := h.2.1 hT
  exact ⟨b, o, h1, Nat.lt_of_lt_of_le h2 hb.size, fun j x hx => (hb.cell (p := ⟨b, o + j, none⟩) h2).trans (h3 j x hx)⟩
theorem BtAt.conv {w : World} {a : Option Addr} {c : Nat} {T : List UInt8} (h : BtAt w a c T) : (convert 30 9 (.slice a T.length c)).run Tryd.prog w = .ok (.string (bs T)) w := by
  by_cases hT : T = []
  · subst hT
    cases a with
    | none => exact run_convert_bytes_nil w 30 5 Tryd.underlying30 Tryd.underlying5 0 c 9 Tryd.underlying9
    | some x => exact run_convert_bytes_back w 30 9 5 x c [] Tryd.underlying30 Tryd.underlying5 Tryd.underlying9 (fun j hj => by simp at hj)
  · obtain ⟨b, o, rfl, h2, h3⟩ := h.2.1 hT
    refine run_convert_bytes_back w 30 9 5 ⟨b, o, none⟩ c T Tryd.underlying30 Tryd.underlying5 Tryd.underlying9 ?_
    intro j hj
    have hplain : (⟨b, o, none⟩ : Addr).add j = ⟨b, o + j, none⟩ := by unfold Addr.add; split <;> simp_all
    rw [hplain]
    exact h3 j _ (List.getElem?_eq_getElem hj)
set_option maxRecDepth 100000 in
set_option maxHeartbeats 8000000 in
theorem read_by (T : List UInt8) (hT : T.length ≤ 1048576) (w : World) (hv : Vars w) (h2 : 2 ≤ w.heap.size) :
    Calls Tryd.prog 21 #[.string (bs T), .int .i64 1] w fun e w' => ∃ G S c a v, OutcomeB T G c a ∧ e = .returned (.tuple #[.agg (GrS.cells S G), v]) ∧ GrAt w'.heap.size w' S G ∧ NewAt w.heap.size S ∧ ErrN w.heap.size w' v c a ∧ Below w.heap.size w w' := by
  have hmf : ∀ (fn : Fn) (first cap : Array Value) (w : World), (Instr.makeFunc fn first cap).run Tryd.prog w = .ok (.func fn first cap) w := fun _ _ _ _ => rfl
  have HV := hidden hv
  clear hv
  go_enter_defers Tryd.func21, Tryd.ntmps21
  go_upto_region 3 with fail
  generalize hW : World.alloc (World.alloc (World.alloc w _) _) _ = W
  obtain ⟨p, hp⟩ : ∃ x, x = w.heap.size := ⟨_, rfl⟩
  obtain ⟨q, hq⟩ : ∃ x, x = w.heap.size + 1 := ⟨_, rfl⟩
  obtain ⟨r, hr⟩ : ∃ x, x = w.heap.size + 1 + 1 := ⟨_, rfl⟩
  have HB : Hid (Below w.heap.size w W) := by rw [← hW]; exact (((Below.refl _ _).alloc (Nat.le_refl _) _).alloc (by simp) _).alloc (by simp; omega) _
  have HP : Hid (W.heap[p]? = some (.cells #[.int .i64 0, .slice none 0 0, .slice none 0 0, .slice none 0 0] 28 (0, 0))) := by
    rw [← hW, hp]
    show _ = _
    rw [heap_alloc_old _ _ (by simp; omega), heap_alloc_old _ _ (by simp)]; exact heap_new _ _
  have HQ : Hid (W.heap[q]? = some (.cells #[.nilIface] 34 (0, 0))) := by
    rw [← hW, hq]
    show _ = _
    rw [heap_alloc_old _ _ (by simp)]
    have := heap_new (w.alloc (.cells #[.int .i64 0, .slice none 0 0, .slice none 0 0, .slice none 0 0] 28)) (.cells #[.nilIface] 34)
    simpa using this
  have hrl : r < W.heap.size := by rw [← hW, hr]; simp
  have HR : Hid (RdAt W r ⟨1, 0, 0, 0, 0, 0, T, 0, 0, 0⟩) := by
    show RdAt _ _ _
    unfold RdAt
    rw [← hW, hr]
    have := heap_new ((w.alloc (.cells #[.int .i64 0, .slice none 0 0, .slice none 0 0, .slice none 0 0] 28)).alloc (.cells #[.nilIface] 34)) (.cells (RdS.cells ⟨1, 0, 0, 0, 0, 0, T, 0, 0, 0⟩) 81)
    simpa [RdS.cells] using this
  rw [← hr, ← hq, ← hp]
  have hpw : w.heap.size ≤ p := by omega
  have hqw : w.heap.size ≤ q := by omega
  have hrw : w.heap.size ≤ r := by omega
  have hpq : p ≠ q := by omega
  have hpr : p ≠ r := by omega
  have hqr : q ≠ r := by omega
  have hpr' : p < r := by omega
  have hqr' : q < r := by omega
  clear hW hp hq hr
  have GA := hidden (graph_by r T _ W (by_start HR.out hT) (HV.out.to HB.out h2) (by omega))
  have HVW := hidden (HV.out.to HB.out h2)
  go_wp2_with fail
  go_at_call 35
  refine GA.out.mono ?_
  rintro e w1 (⟨G, S, hG, rfl, hAt, hNew, hg⟩ | ⟨x, hBad, fp, rfl, hf1, hf2, hg⟩)
  · have HG1 := hidden hg
    have HAT := hidden hAt
    have HNW := hidden hNew
    have HGD := hidden hG
    have hs1 := hg.size
    have HP1 := hidden ((hg.block p (by omega) (fun e => hpr (Option.some.inj e))).trans HP.out)
    have HQ1 := hidden ((hg.block q (by omega) (fun e => hqr (Option.some.inj e))).trans HQ.out)
    have p0 : w1.cell? ⟨p, 0, none⟩ = some (.int .i64 0) := heap_cell HP1.out
    have p1 : w1.cell? ⟨p, 1, none⟩ = some (.slice none 0 0) := heap_cell HP1.out
    have p2 : w1.cell? ⟨p, 2, none⟩ = some (.slice none 0 0) := heap_cell HP1.out
    have p3 : w1.cell? ⟨p, 3, none⟩ = some (.slice none 0 0) := heap_cell HP1.out
    have q0 : w1.cell? ⟨q, 0, none⟩ = some .nilIface := heap_cell HQ1.out
    have f0 : ∀ j, w1.frozen? ⟨p, j, none⟩ = false := fun j => heap_fz HP1.out j
    have g0 : ∀ j, w1.frozen? ⟨q, j, none⟩ = false := fun j => heap_fz HQ1.out j
    clear hg hAt hNew hG GA HP HQ
    have HSC : Hid (GrS.cells S G = #[.int .i64 G.ins, .slice S.a1 G.lats.length S.c1, .slice S.a2 G.ands.length S.c2, .slice S.a3 G.outs.length S.c3]) := rfl
    rw [HSC.out]
    go_wp2_with fail
    generalize hW5 : World.setCell _ (⟨q, 0, none⟩ : Addr) _ = w5
    have HP5 : Hid (w5.heap[p]? = some (.cells #[.int .i64 G.ins, .slice S.a1 G.lats.length S.c1, .slice S.a2 G.ands.length S.c2, .slice S.a3 G.outs.length S.c3] 28 (0, 0))) := by
      rw [← hW5, set_heap _ (Ne.symm hpq)]; exact set4_heap HP1.out _ _ _ _
    have HQ5 : Hid (w5.heap[q]? = some (.cells #[.nilIface] 34 (0, 0))) := by
      rw [← hW5]
      refine (set_self (cs := #[.nilIface]) ?_).trans rfl
      rw [set_heap _ hpq, set_heap _ hpq, set_heap _ hpq, set_heap _ hpq]
      exact HQ1.out
    have HK5 : Hid (∀ k, k ≠ p → k ≠ q → k < w1.heap.size → w5.heap[k]? = w1.heap[k]?) := fun k hk1 hk2 _ => by
      rw [← hW5, set_heap _ (Ne.symm hk2), set_heap _ (Ne.symm hk1), set_heap _ (Ne.symm hk1), set_heap _ (Ne.symm hk1), set_heap _ (Ne.symm hk1)]
    have hs5 : w5.heap.size = w1.heap.size := by rw [← hW5]; simp [World.setCell]
    have HB5 : Hid (Below w.heap.size w w5) := two_below (HB.out.trans (below_grown HG1.out HB.out.size (fun k hk => by have := Option.some.inj hk; omega))) (by omega) (by rw [← hW5]; rfl) (by rw [← hW5]; rfl) (by rw [← hW5]; rfl) HK5.out hpw hqw
    have HA5 : Hid (GrAt w5.heap.size w5 S G) := HAT.out.out HNW.out (by omega) (fun k hk hk2 => HK5.out k (by omega) (by omega) hk2)
    have z0 : w5.cell? ⟨p, 0, none⟩ = some (.int .i64 G.ins) := heap_cell HP5.out
    have z1 : w5.cell? ⟨p, 1, none⟩ = some (.slice S.a1 G.lats.length S.c1) := heap_cell HP5.out
    have z2 : w5.cell? ⟨p, 2, none⟩ = some (.slice S.a2 G.ands.length S.c2) := heap_cell HP5.out
    have z3 : w5.cell? ⟨p, 3, none⟩ = some (.slice S.a3 G.outs.length S.c3) := heap_cell HP5.out
    have z4 : w5.cell? ⟨q, 0, none⟩ = some .nilIface := heap_cell HQ5.out
    clear hW5 p0 p1 p2 p3 q0 f0 g0
    go_wp2_with fail
    refine leaves_cons (f := 33) (args := #[.pointer (some ⟨p, 0, none⟩), .pointer (some ⟨q, 0, none⟩)]) (by simp) (by simp [go_sem]) ?_
    refine (catch_idle ⟨p, 0, none⟩ ⟨q, 0, none⟩ _).mono ?_
    rintro e u' w'' ⟨rfl, rfl, rfl⟩
    simp [Leaves, settle, results, Tryd.results21, go_sem, z0, z1, z2, z3, z4]
    exact ⟨G, S, 0, 0, Or.inl ⟨HGD.out, rfl, rfl⟩, .nilIface, ⟨rfl, rfl⟩, HA5.out, HNW.out.mono HB.out.size, Or.inl ⟨rfl, rfl, rfl⟩, HB5.out⟩
  · have HG1 := hidden hg
    have HFT := hidden hf1
    have HBD := hidden hBad
    have hs1 := hg.size
    have HP1 := hidden ((hg.block p (by omega) (fun e => hpr (Option.some.inj e))).trans HP.out)
    have HQ1 := hidden ((hg.block q (by omega) (fun e => hqr (Option.some.inj e))).trans HQ.out)
    have CP := hidden (catch_pan p q fp _ _ _ _ _ w1 (HVW.out.grown HG1.out (by omega) (by omega)) (by omega) HP1.out HQ1.out hpq)
    clear hg hf1 hBad GA HP HQ
    unfold thrown
    go_wp2
    refine leaves_cons (f := 33) (args := #[.pointer (some ⟨p, 0, none⟩), .pointer (some ⟨q, 0, none⟩)]) (by simp) (by simp [go_sem]) ?_
    refine CP.out.mono ?_
    rintro e u' w5 ⟨rfl, rfl, hP5, hQ5, W5, hb, ho, ht, hou, hsz, hk⟩
    have hbs := hb.size
    have HB5 : Hid (Below w.heap.size w w5) := two_below (w1 := W5) ((HB.out.trans (below_grown HG1.out HB.out.size (fun k hk => by have := Option.some.inj hk; omega))).trans (hb.mono (by have := HB.out.size; omega))) (by omega) (ho.trans hb.os.symm) (ht.trans hb.tape.symm) (hou.trans hb.output.symm) (fun k h1 h2 _ => hk k h1 h2) hpw hqw
    have HF5 : Hid (FtAt w5 fp 16 x) := by
      have h := HFT.out.to hb
      have h3 := hk fp (by omega) (by omega)
      exact ⟨by rw [hsz]; exact h.lt, (World.cell?_of_block h3).trans h.c0, (World.cell?_of_block h3).trans h.c1⟩
    have z0 : w5.cell? ⟨p, 0, none⟩ = some (.int .i64 0) := heap_cell hP5
    have z1 : w5.cell? ⟨p, 1, none⟩ = some (.slice none 0 0) := heap_cell hP5
    have z2 : w5.cell? ⟨p, 2, none⟩ = some (.slice none 0 0) := heap_cell hP5
    have z3 : w5.cell? ⟨p, 3, none⟩ = some (.slice none 0 0) := heap_cell hP5
    have z4 : w5.cell? ⟨q, 0, none⟩ = some (.iface 85 (.pointer (some ⟨fp, 0, none⟩))) := heap_cell hQ5
    clear hP5 hQ5 hb ho ht hou hsz hk
    simp [Leaves, settle, results, Tryd.results21, go_sem, z0, z1, z2, z3, z4]
    exact ⟨zeroG, zeroS, 16, x, Or.inr ⟨HBD.out, rfl, rfl⟩, _, ⟨rfl, rfl⟩, zeroAt _ _, zeroN _, Or.inr ⟨fp, rfl, HF5.out, by have := HB.out.size; omega⟩, HB5.out⟩
set_option maxRecDepth 100000 in
set_option maxHeartbeats 4000000 in
theorem unpack_any (T : List UInt8) (hT : T.length ≤ 1048576) (av : Option Addr) (cv : Nat) (w : World) (hbt : BtAt w av cv T) (hv : Vars w) (h2 : 2 ≤ w.heap.size) :
    Calls Tryd.prog 17 #[.slice av T.length cv] w fun e w' => ∃ G S c a v, OutcomeB T G c a ∧ e = .returned (.tuple #[.agg (GrS.cells S G), v]) ∧ GrAt w'.heap.size w' S G ∧ ErrAt w' v c a ∧ Below w.heap.size w w' := by
  have HV := hidden hv
  clear hv
  go_enter Tryd.func17, Tryd.ntmps17
  go_upto_region 1 with fail
  generalize hW : World.alloc w _ = W
  obtain ⟨p, hp⟩ : ∃ x, x = w.heap.size := ⟨_, rfl⟩
  have HB : Hid (Below w.heap.size w W) := by rw [← hW]; exact (Below.refl _ _).alloc (Nat.le_refl _) _
  have HP : Hid (W.heap[p]? = some (.cells #[.int .i64 0, .slice none 0 0, .slice none 0 0, .slice none 0 0] 28 (0, 0))) := by
    rw [← hW, hp]; exact heap_new _ _
  have hpl : p < W.heap.size := by rw [← hW, hp]; simp
  rw [← hp]
  have hpw : w.heap.size ≤ p := by omega
  clear hW hp
  have hcv := (hbt.to HB.out).conv
  clear hbt
  have RD := hidden (read_by T hT W (HV.out.to HB.out h2) (Nat.le_trans h2 HB.out.size))
  go_wp2_with fail
  go_at_call 21
  refine RD.out.mono ?_
  rintro e w1 ⟨G, S, c, a, v, hO, rfl, hA, hN, hE, hB⟩
  have HO := hidden hO
  have HA := hidden hA
  have HN := hidden hN
  have HE := hidden hE
  have HB1 := hidden hB
  have hs1 := hB.size
  have HP1 := hidden ((hB.block p hpl).trans HP.out)
  have p0 : w1.cell? ⟨p, 0, none⟩ = some (.int .i64 0) := heap_cell HP1.out
  have p1 : w1.cell? ⟨p, 1, none⟩ = some (.slice none 0 0) := heap_cell HP1.out
  have p2 : w1.cell? ⟨p, 2, none⟩ = some (.slice none 0 0) := heap_cell HP1.out
  have p3 : w1.cell? ⟨p, 3, none⟩ = some (.slice none 0 0) := heap_cell HP1.out
  have f0 : ∀ j, w1.frozen? ⟨p, j, none⟩ = false := fun j => heap_fz HP1.out j
  clear hO hA hN hE hB RD HP hcv
  have HSC : Hid (GrS.cells S G = #[.int .i64 G.ins, .slice S.a1 G.lats.length S.c1, .slice S.a2 G.ands.length S.c2, .slice S.a3 G.outs.length S.c3]) := rfl
  rw [HSC.out]
  go_wp2
  have HG5 : Hid (w1.grownBy ((((w1.setCell ⟨p, 0, none⟩ (.int .i64 G.ins)).setCell ⟨p, 1, none⟩ (.slice S.a1 G.lats.length S.c1)).setCell ⟨p, 2, none⟩ (.slice S.a2 G.ands.length S.c2)).setCell ⟨p, 3, none⟩ (.slice S.a3 G.outs.length S.c3)) (some p)) := grown_trans (grown_trans (grown_trans (gset _ _ _ _) (gset _ _ _ _)) (gset _ _ _ _)) (gset _ _ _ _)
  obtain ⟨z0, z1, z2, z3⟩ := set4 p0 p1 p2 p3 (.int .i64 G.ins) (.slice S.a1 G.lats.length S.c1) (.slice S.a2 G.ands.length S.c2) (.slice S.a3 G.outs.length S.c3)
  generalize World.setCell _ (⟨p, 3, none⟩ : Addr) _ = w5 at HG5 z0 z1 z2 z3 ⊢
  clear p0 p1 p2 p3 f0
  refine bodyPost_ret (v := .tuple #[.agg (GrS.cells S G), v]) (by rw [HSC.out]; simp [results, Tryd.results17, go_sem, *]) rfl ?_
  have hs5 := HG5.out.size
  refine ⟨G, S, c, a, v, HO.out, rfl, HA.out.set HN.out hpl HG5.out, ?_, (HB.out.trans (HB1.out.mono HB.out.size)).trans (below_grown HG5.out (by have := HB.out.size; omega) (fun k hk => by have := Option.some.inj hk; omega))⟩
  rcases HE.out with h | ⟨fp, h1, h3, h4⟩
  · exact Or.inl h
  · exact Or.inr ⟨fp, h1, Nat.lt_of_lt_of_le h3.lt hs5, (gcell HG5.out h3.lt (by omega)).trans h3.c0, (gcell HG5.out h3.lt (by omega)).trans h3.c1⟩


end Go.Proofs.YtdiahnommkhkiaaDoor
