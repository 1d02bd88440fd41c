import Derived.Test.YtdiahnommkhkiaaDoorJ44
import Derived.Test.YtdiahnommkhkiaaDoorJ46
import Derived.Test.YtdiahnommkhkiaaDoorJ47
import Derived.Test.YtdiahnommkhkiaaDoorJ45
import Derived.Test.YtdiahnommkhkiaaDoorRows
import Derived.Test.YtdiahnommkhkiaaDoorJ33
import Derived.OpenShut
import Derived.Stop.Joined
import Derived.Test.YtdiahnommkhkiaaDoorJ04
import Derived.LaidMore
import Derived.LaidHandle
import Derived.Lay
import Derived.Shelf.Vars
import Derived.HandedShaped
import Derived.Lib.LaidTab
namespace Go.Proofs.YtdiahnommkhkiaaDoor
open Go.RowKit

set_option maxRecDepth 100000 in
set_option maxHeartbeats 4000000 in
theorem unpacked_any (T : List UInt8) (hT : T.length ≤ 1048576) (av : Option Addr) (cv : Nat) (w : World) (hbt : BtAt w av cv T) (hv : Vars w) (h2 : 2 ≤ w.heap.size) :
    Calls Tryd.prog 8 #[.slice av T.length cv] w fun e w' => e = .returned (.bool true) ∧ Below w.heap.size w w' := by
  have P1 := hidden (unpack_any T hT av cv w hbt hv h2)
  have HV := hidden hv
  have HBT := hidden hbt
  have HTL : Hid (T.length ≤ 1048576) := hT
  clear hv hbt
  generalize hln : T.length = tl at *
  have HLNE := hidden hln
  clear hln
  go_enter Tryd.func8, Tryd.ntmps8
  go_wp2_with fail
  go_at_call 17
  refine P1.out.mono ?_
  rintro e w1 ⟨G, S, c, a, v, hO, rfl, hA, hE, hB⟩
  have HO := hidden hO
  have HA := hidden hA
  have HE := hidden hE
  have HB := hidden hB
  clear hO hA hE hB P1
  have HSC : Hid (GrS.cells S G = #[.int .i64 G.ins, .slice S.a1 G.lats.length S.c1, .slice S.a2 G.ands.length S.c2, .slice S.a3 G.outs.length S.c3]) := rfl
  rw [HSC.out]
  go_upto_region 2 with fail
  generalize hW2 : World.alloc w1 _ = w2
  obtain ⟨b3, hb3⟩ : ∃ x, x = w1.heap.size := ⟨_, rfl⟩
  have HB2 : Hid (Below w1.heap.size w1 w2) := by rw [← hW2]; exact (Below.refl _ _).alloc (Nat.le_refl _) _
  have HG2 : Hid (w2.heap[b3]? = some (.cells #[.int .i64 G.ins, .slice S.a1 G.lats.length S.c1, .slice S.a2 G.ands.length S.c2, .slice S.a3 G.outs.length S.c3] 28 (0, 0))) := by rw [← hW2, hb3]; exact heap_new _ _
  have hl3 : b3 < w2.heap.size := by rw [← hW2, hb3]; simp
  rw [← hb3]
  clear hW2 hb3
  have HBw2 : Hid (Below w.heap.size w w2) := HB.out.trans (HB2.out.mono HB.out.size)
  have A2 := hidden (aigUnpack_any T (by rw [HLNE.out]; exact hT) av cv w2 (HBT.out.to HBw2.out))
  rw [HLNE.out] at A2
  go_wp2_with fail
  go_at_call 18
  refine A2.out.mono ?_
  rintro e w3 ⟨G', S', c', a', hO, rfl, hA, hB⟩
  obtain ⟨rfl, rfl, rfl⟩ := outcomeB_same HO.out hO
  have HA' := hidden hA
  have HB3 := hidden hB
  have HG3 := hidden ((hB.block b3 hl3).trans HG2.out)
  have hs3 := hB.size
  clear hO hA hB A2 HO HG2
  have HSC' : Hid (GrS.cells S' G = #[.int .i64 G.ins, .slice S'.a1 G.lats.length S'.c1, .slice S'.a2 G.ands.length S'.c2, .slice S'.a3 G.outs.length S'.c3]) := rfl
  rw [HSC'.out]
  go_upto_region 3 with fail
  generalize hW4 : World.alloc (World.alloc w3 _) _ = w4
  obtain ⟨b5, hb5⟩ : ∃ x, x = w3.heap.size := ⟨_, rfl⟩
  obtain ⟨b6, hb6⟩ : ∃ x, x = w3.heap.size + 1 := ⟨_, rfl⟩
  have HB4 : Hid (Below w3.heap.size w3 w4) := by rw [← hW4]; exact ((Below.refl _ _).alloc (Nat.le_refl _) _).alloc (by simp) _
  have HG5 : Hid (w4.heap[b5]? = some (.cells #[.int .i64 G.ins, .slice S'.a1 G.lats.length S'.c1, .slice S'.a2 G.ands.length S'.c2, .slice S'.a3 G.outs.length S'.c3] 28 (0, 0))) := by
    show _ = _
    rw [← hW4, hb5, heap_alloc_old _ _ (by simp)]; exact heap_new _ _
  have HF6 : Hid (w4.heap[b6]? = some (.cells #[.int .i64 c, .int .i64 a] 38 (0, 0))) := by
    show _ = _
    rw [← hW4, hb6]
    have := heap_new (w3.alloc (.cells #[.int .i64 G.ins, .slice S'.a1 G.lats.length S'.c1, .slice S'.a2 G.ands.length S'.c2, .slice S'.a3 G.outs.length S'.c3] 28)) (.cells #[.int .i64 c, .int .i64 a] 38)
    simpa using this
  have hl5 : b5 < w4.heap.size := by rw [← hW4, hb5]; simp; omega
  have HG3' := hidden ((HB4.out.block b3 (by omega)).trans HG3.out)
  rw [← hb6, ← hb5]
  clear hW4 hb5 hb6
  have HB14 : Hid (Below w1.heap.size w1 w4) := (HB2.out.trans (HB3.out.mono HB2.out.size)).trans (HB4.out.mono (Nat.le_trans HB2.out.size HB3.out.size))
  have HBw4 : Hid (Below w.heap.size w w4) := HB.out.trans (HB14.out.mono HB.out.size)
  have f0 : w4.cell? ⟨b6, 0, none⟩ = some (.int .i64 c) := heap_cell HF6.out
  have f1 : w4.cell? ⟨b6, 1, none⟩ = some (.int .i64 a) := heap_cell HF6.out
  have FA := hidden (faulty_any v c a w4 (HE.out.to HB14.out) (HV.out.to HBw4.out h2) (Nat.le_trans h2 HBw4.out.size))
  go_wp2_with fail
  go_at_call 12
  refine FA.out.mono ?_
  rintro e w5 ⟨rfl, hb5⟩
  have HB5 := hidden hb5
  have HGa := hidden ((hb5.block b3 (by have := HB4.out.size; omega)).trans HG3'.out)
  have HGb := hidden ((hb5.block b5 hl5).trans HG5.out)
  have g0 : w5.cell? ⟨b3, 0, none⟩ = some (.int .i64 G.ins) := heap_cell HGa.out
  have g1 : w5.cell? ⟨b3, 1, none⟩ = some (.slice S.a1 G.lats.length S.c1) := heap_cell HGa.out
  have g2 : w5.cell? ⟨b3, 2, none⟩ = some (.slice S.a2 G.ands.length S.c2) := heap_cell HGa.out
  have g3 : w5.cell? ⟨b3, 3, none⟩ = some (.slice S.a3 G.outs.length S.c3) := heap_cell HGa.out
  have k0 : w5.cell? ⟨b5, 0, none⟩ = some (.int .i64 G.ins) := heap_cell HGb.out
  have k1 : w5.cell? ⟨b5, 1, none⟩ = some (.slice S'.a1 G.lats.length S'.c1) := heap_cell HGb.out
  have k2 : w5.cell? ⟨b5, 2, none⟩ = some (.slice S'.a2 G.ands.length S'.c2) := heap_cell HGb.out
  have k3 : w5.cell? ⟨b5, 3, none⟩ = some (.slice S'.a3 G.outs.length S'.c3) := heap_cell HGb.out
  have HB15 : Hid (Below w1.heap.size w1 w5) := HB14.out.trans (hb5.mono HB14.out.size)
  have HB35 : Hid (Below w3.heap.size w3 w5) := HB4.out.trans (hb5.mono HB4.out.size)
  have SG := hidden (sameGraph_any w5.heap.size w5 S S' G ((HA.out.to HB15.out).mono HB15.out.size) ((HA'.out.to HB35.out).mono HB35.out.size) (Nat.le_refl _))
  rw [HSC.out, HSC'.out] at SG
  have HBw5 : Hid (Below w.heap.size w w5) := HBw4.out.trans (hb5.mono HBw4.out.size)
  clear hb5 FA f0 f1 HG3 HG3' HG5 HF6 HGa HGb HE HA HA'
  go_wp2_with fail
  go_at_call 13
  refine SG.out.mono ?_
  rintro e w6 ⟨rfl, hb6⟩
  have HBw6 : Hid (Below w.heap.size w w6) := HBw5.out.trans (hb6.mono HBw5.out.size)
  clear hb6 SG g0 g1 g2 g3 k0 k1 k2 k3
  go_wp2
  go_ret
  exact ⟨rfl, HBw6.out⟩
theorem tinyB_len : (packT tinyG).length ≤ 1048576 := by decide +kernel
theorem tinyB_pos : 0 < (packT tinyG).length := by decide +kernel
theorem txt_bt {B : Nat} {w : World} {v : Value} {t : List UInt8} (h : Txt B w v t) (ht : 0 < t.length) : ∃ a c, v = .slice a t.length c ∧ BtAt w a c t := by
  obtain ⟨g, cap, rfl, _, hl⟩ := OwnM.row h ht
  have hc : t.length ≤ cap := by
    rcases h.2 with h0 | ⟨g', cap', cur, fz, hv, _, _, _, hcap, _⟩
    · have := congrArg (fun v => match v with | Value.slice a _ _ => a.isSome | _ => false) h0.1
      simp at this
    · cases hv; exact hcap
  refine ⟨_, _, rfl, hc, fun _ => ⟨g, 0, rfl, hl, fun j x hx => ?_⟩, trivial⟩
  have := OwnM.cells h (g := g) rfl j (.int .u8 (x.toNat : Int)) (by unfold bC8 Lib.byteCells; rw [List.getElem?_map, hx]; rfl)
  have hplain : (⟨g, 0, none⟩ : Addr).add j = ⟨g, 0 + j, none⟩ := by unfold Addr.add; split <;> simp_all
  rw [hplain] at this
  exact this
set_option maxRecDepth 100000 in
set_option maxHeartbeats 4000000 in
theorem law_unpacks (T : List UInt8) (hT : T.length ≤ 1048576) (av : Option Addr) (cv : Nat) (w : World) (hbt : BtAt w av cv T) (hv : Vars w) (h2 : 2 ≤ w.heap.size) :
    Calls Tryd.prog 4 #[.slice av T.length cv] w fun e w' => e = .returned (.bool true) ∧ Below w.heap.size w w' := by
  have TI := hidden (tiny_any w)
  have PA : Hid (∀ T av cv w', T.length ≤ 1048576 → BtAt w' av cv T → Below w.heap.size w w' → Calls Tryd.prog 8 #[.slice av T.length cv] w' fun e w'' => e = .returned (.bool true) ∧ Below w'.heap.size w' w'') := fun T av cv w' h1 hbb hb => unpacked_any T h1 av cv w' hbb (hv.to hb h2) (Nat.le_trans h2 hb.size)
  have P2 : Hid (∀ w', Below w.heap.size w w' → Calls Tryd.prog 8 #[.slice av T.length cv] w' fun e w'' => e = .returned (.bool true) ∧ Below w'.heap.size w' w'') := fun w' hb => PA.out T av cv w' hT (hbt.to hb) hb
  clear hv hbt
  generalize T.length = tl at *
  go_enter Tryd.func4, Tryd.ntmps4
  go_wp2_with fail
  go_at_call 7
  refine TI.out.mono ?_
  rintro e w1 ⟨S, rfl, hA, hB⟩
  have AT := hidden (aigPack_any w1.heap.size w1 S tinyG hA (Nat.le_refl _) (by decide +kernel))
  have HB1 := hidden hB
  clear hA hB TI
  have HSC : Hid (∃ x, x = GrS.cells S tinyG) := ⟨_, rfl⟩
  obtain ⟨cs, hcs⟩ := HSC.out
  rw [← hcs] at AT ⊢
  clear hcs HSC
  go_wp2_with fail
  go_at_call 9
  refine AT.out.mono ?_
  rintro e w2 ⟨⟨v, B', rfl, hB', htx⟩, hb2⟩
  obtain ⟨a1, c1, rfl, hbt1⟩ := txt_bt htx tinyB_pos
  have HB2 : Hid (Below w.heap.size w w2) := HB1.out.trans (hb2.mono HB1.out.size)
  have P1 := hidden (PA.out (packT tinyG) a1 c1 w2 tinyB_len hbt1 HB2.out)
  clear hb2 AT PA htx hbt1
  generalize (packT tinyG).length = tn at *
  go_wp2_with fail
  go_at_call 8
  refine P1.out.mono ?_
  rintro e w3 ⟨rfl, hb3⟩
  have HB3 : Hid (Below w.heap.size w w3) := HB2.out.trans (hb3.mono HB2.out.size)
  clear hb3 P1
  go_wp2_with fail
  go_at_call 8
  refine (P2.out w3 HB3.out).mono ?_
  rintro e w4 ⟨rfl, hb4⟩
  have HB4 : Hid (Below w.heap.size w w4) := HB3.out.trans (hb4.mono HB3.out.size)
  clear hb4 P2
  go_wp2
  go_ret
  exact ⟨rfl, HB4.out⟩


end Go.Proofs.YtdiahnommkhkiaaDoor

namespace Go.Proofs.YtdiahnommkhkiaaDoor
open Go.ChangeShapes Go.WideShapes Go.RowKit

theorem bulk_lits {H : Type} (k : IntKind) : ∀ zs : List Int, Rows.uptoBulkAll (lits (H := H) k zs) = zs.length
  | [] => rfl
  | z :: zs => by
    show Rows.uptoBulk (DataW.lit (H := H) (.int k z)) + Rows.uptoBulkAll (lits (H := H) k zs) = _
    rw [bulk_lits k zs]
    simp [Rows.uptoBulk]; omega
theorem bytes_cells : Tryd.prog.cellsOf 5 = 1 := by kernel_rfl
set_option maxRecDepth 100000 in
/-- bytes that come in -/
theorem bytes_of {H : Type} {enc : TypeId × Value → H} {W : World} {base : Nat} {v : Value} {d : DataW H} {p : List MemPlace} (hval : Value.okWide Tryd.prog W .any base 30 v) (h0 : DataW.Trod enc Tryd.prog W 0 (fun _ => true) true 30 v d p) :
    ∃ (T : List UInt8) (a : Option Addr) (c : Nat), v = .slice a T.length c ∧ BtAt W a c T ∧ T.length ≤ Rows.uptoBulk d := by
  obtain ⟨a1, len, cap, rfl⟩ := okWide_slice Tryd.underlying30 hval
  obtain ⟨fuel, hf⟩ := h0
  rcases open_ints Tryd.underlying30 Tryd.underlying5 bytes_cells hf with ⟨hcs, hx⟩ | ⟨a, len', cap', zs, hcs, _, hl, hm, hz, hx, hcell, hwz⟩
  · simp [Value.cells] at hcs
    obtain ⟨rfl, rfl, rfl⟩ := hcs
    exact ⟨[], none, 0, rfl, ⟨Nat.le_refl _, fun h => absurd rfl h, trivial⟩, Nat.zero_le _⟩
  · simp [Value.cells] at hcs
    obtain ⟨rfl, rfl, rfl⟩ := hcs
    simp only [Prod.mk.injEq] at hx
    obtain ⟨rfl, rfl⟩ := hx
    simp only [if_true] at hz
    have hlen : ((zs.take len).map fun n => UInt8.ofNat n.toNat).length = len := by simp; omega
    obtain ⟨ab, ao, spot⟩ := a
    by_cases hl0 : len = 0
    · subst hl0
      exact ⟨[], _, cap, rfl, ⟨Nat.zero_le _, fun h => absurd rfl h, trivial⟩, Nat.zero_le _⟩
    · have hspot : spot = none := by simpa [Addr.add] using World.cell?_spot (hcell 0 (by omega))
      subst hspot
      refine ⟨(zs.take len).map fun n => UInt8.ofNat n.toNat, some ⟨ab, ao, none⟩, cap, by rw [hlen], ⟨by rw [hlen]; exact hl, fun _ => ⟨ab, ao, rfl, ?_, fun j x hx => ?_⟩, trivial⟩, ?_⟩
      · have h1 := hcell 0 (by omega)
        rw [Addr.add_lit] at h1
        rcases Nat.lt_or_ge ab W.heap.size with h | h
        · exact h
        · unfold World.cell? at h1
          rw [Array.getElem?_eq_none h] at h1
          simp at h1
      · have hj : j < len := by have := (List.getElem?_eq_some_iff.1 hx).1; rw [hlen] at this; exact this
        have hcj := hcell j (by omega)
        rw [Addr.add_lit] at hcj
        rw [hcj]
        have hb := range_u8 hwz j
        rw [List.getElem?_map, List.getElem?_take, if_pos hj] at hx
        have e : zs[j]? = some (zs[j]'(by omega)) := List.getElem?_eq_getElem (by omega)
        rw [e] at hx hb
        simp only [Option.map_some, Option.some.injEq, Option.getD_some] at hx hb
        rw [List.getD_eq_getElem?_getD, e, ← hx]
        simp only [Option.getD_some]
        congr 2
        simp only [UInt8.toNat_ofNat']
        omega
      · rw [hlen]
        show len ≤ Rows.uptoBulkAll (lits .u8 (zs.take len)) + Rows.uptoBulkAll (lits .u8 (zs.drop len)) + 1
        rw [bulk_lits, bulk_lits]
        simp; omega


end Go.Proofs.YtdiahnommkhkiaaDoor

namespace Go.Proofs.YtdiahnommkhkiaaDoor
open Go.ChangeShapes Go.WideShapes Go.RowKit

theorem own : ownKnob Tryd.prog.godebug = none := by kernel_rfl
theorem ap_et : Tryd.prog.globalNamed "errors.errorType" = some 0 := by kernel_rfl
theorem ap_rt : (Tryd.prog.cutTypes.find? (·.1 == "internal/reflectlite.rtype")).map (·.2) = some 117 := by kernel_rfl
theorem ap_size : Tryd.prog.types.size = 176 := by kernel_rfl
theorem ap_row : ((List.range 176).filter fun t => Tryd.prog.rowNamed t [101, 114, 114, 111, 114]) = [34] := by kernel_rfl
abbrev theLaid : List (String × DataW Unit) := [("unicode/utf8.acceptRanges", Rows.laid_unicode_utf8_acceptRanges), ("errors.errorType", Rows.laid_errors_errorType), ("unicode/utf8.first", Rows.laid_unicode_utf8_first)]
theorem handle_of_laid {W : World} (h : laidMetH Tryd.prog theLaid W) : W.cell? ⟨0, 0, none⟩ = some (.iface 117 (.agg #[.pointer (some ⟨4, 34, none⟩)])) := by
  have h' : laidMet Tryd.prog _ W ∧ handlesMet Tryd.prog [("errors.errorType", Rows.laid_errors_errorType)] W := h
  obtain ⟨name, u, ty, e1, e2, e3, e4, e5⟩ := h'.2 _ (List.mem_singleton.2 rfl)
  have en : name = [101, 114, 114, 111, 114] := (Option.some.inj e1).symm
  subst en
  obtain rfl := Option.some.inj (ap_rt.symm.trans e2)
  have hm : ty ∈ (List.range 176).filter fun t => Tryd.prog.rowNamed t [101, 114, 114, 111, 114] := List.mem_filter.2 ⟨List.mem_range.2 (by rw [← ap_size]; exact e3), e4⟩
  rw [ap_row] at hm
  obtain rfl := List.mem_singleton.1 hm
  have hh : typeHandle Tryd.prog 34 = .pointer (some ⟨4, 34, none⟩) := by kernel_rfl
  rw [hh] at e5
  simpa using World.var?_cell ap_et e5 0
theorem vars_of {W : World} (h : laidMetH Tryd.prog theLaid W) (hsh : W.ShapedOpen Tryd.prog) : Vars W ∧ 2 ≤ W.heap.size := by
  obtain ⟨m, hm⟩ := cell_of_shapedOpen_int (P := Tryd.prog) (g := 1) (t := 3) (zero := #[.int .i64 0]) hsh (of_decide_eq_true (by kernel_rfl)) (by kernel_rfl) rfl (by kernel_rfl) (by kernel_rfl) Tryd.underlying3
  refine ⟨⟨handle_of_laid h, m, hm⟩, ?_⟩
  rcases Nat.lt_or_ge 1 W.heap.size with h | h
  · exact h
  · unfold World.cell? at hm
    rw [Array.getElem?_eq_none h] at hm
    simp at hm
/-- a world that meets the condition -/
noncomputable def baseW (os : Os) : World :=
  let w0 := World.holding Tryd.prog os ⟨#[], #[], []⟩
  { w0 with heap := w0.heap.modify 0 fun
      | .cells _ t frozen => .cells #[.iface 117 (.agg #[.pointer (some ⟨4, 34, none⟩)])] t frozen
      | o => o }
abbrev plainLaid : List (String × DataW Unit) := [("unicode/utf8.acceptRanges", Rows.laid_unicode_utf8_acceptRanges), ("unicode/utf8.first", Rows.laid_unicode_utf8_first)]
noncomputable def laidW (os : Os) : World := (baseW os).layVars Tryd.prog plainLaid
theorem laidW_os (os : Os) : (laidW os).os = os := World.layVars_os _ _ _
theorem laidW_met (os : Os) (args : Array Value) : laidMetH Tryd.prog theLaid ((laidW os).forCall (fun _ _ => 0) ⟨#[], args, []⟩).memory := by
  have h : laidMet Tryd.prog plainLaid (laidW os) := laidMet_layVars (w0 := baseW os) ["unicode/utf8.acceptRanges", "unicode/utf8.first"] [] rfl (by kernel_rfl) (by kernel_rfl) LaidIn.none
  have h2 : laidMet Tryd.prog plainLaid ((laidW os).forCall (fun _ _ => 0) ⟨#[], args, []⟩).memory := h.of_heap (by simp [World.memory, World.forCall, Input.heap])
  exact laidMetH_of_parts h2 (by kernel_rfl)


end Go.Proofs.YtdiahnommkhkiaaDoor
