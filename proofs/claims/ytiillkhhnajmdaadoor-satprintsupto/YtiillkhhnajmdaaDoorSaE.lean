import Derived.Test.YtiillkhhnajmdaaDoorSaC
import Derived.Lib.Builder
import Derived.Lib.AppendStr
import Derived.Laws.AppendOwn
import Derived.Deep.AppendLies
import Derived.Deep.Cut
namespace Go.Proofs.YtiillkhhnajmdaaDoor
open Go.RowKit

/-- a builder in its block, and what has been written -/
abbrev BAt (B b : Nat) (l : List UInt8) (w : World) : Prop := Lib.IsBuilder 33 5 B b (Lib.byteCells l) w
theorem sizeB : (Tryd.prog.info? 33).map (fun i => i.size) = some 2 := by kernel_rfl
theorem liesB : liesAt Tryd.prog Tryd.prog.depth 33 (2 / Tryd.prog.cellsOf 33) 0 33 1 = true := by kernel_rfl
theorem info_byte0 : (Tryd.prog.info? 5).map (fun i => (i.zero, i.size, i.bytes)) = some (some (.int .u8 0), 1, 1) := by kernel_rfl
theorem info_byte : ∃ i, Tryd.prog.info? 5 = some i ∧ i.zero = some (.int .u8 0) ∧ i.size = 1 ∧ i.bytes = 1 := by
  have h := info_byte0
  cases hi : Tryd.prog.info? 5 with
  | none => rw [hi] at h; cases h
  | some i => rw [hi] at h; simp at h; exact ⟨i, rfl, h.1, h.2.1, h.2.2⟩
theorem byteCells_append (a b : List UInt8) : Lib.byteCells (a ++ b) = Lib.byteCells a ++ Lib.byteCells b := by simp [Lib.byteCells]
theorem strCells_bs (l : List UInt8) : Lib.strCells (bs l) = Lib.byteCells l := by simp [Lib.strCells, Lib.byteCells, bs]
theorem byteCells_len (l : List UInt8) : (Lib.byteCells l).length = l.length := by simp [Lib.byteCells]

set_option maxRecDepth 100000 in
set_option maxHeartbeats 1000000 in
theorem check_fresh (b : Nat) (w : World) (h0 : w.cell? ⟨b, 0, none⟩ = some (.pointer none)) (hsh : w.shape? b = some (33, 2)) (hfz : w.frozen? ⟨b, 0, none⟩ = false) :
    Calls Tryd.prog 16 #[.pointer (some ⟨b, 0, none⟩)] w fun e w' => e = .returned (.tuple #[]) ∧ w' = w.setCell ⟨b, 0, none⟩ (.pointer (some ⟨b, 0, none⟩)) := by
  obtain ⟨j, hj, hjs⟩ := Option.map_eq_some_iff.1 sizeB
  have HJ := hidden hj
  have HJS := hidden hjs
  have HSH := hidden hsh
  clear hj hjs hsh
  go_enter Tryd.func16, Tryd.ntmps16
  go_wp2
  rw [Lib.run_to_unsafe w ⟨b, 0, none⟩ Tryd.underlying30 Tryd.underlying43 HJ.out (by rw [HJS.out]; decide) HSH.out (Nat.zero_lt_succ 1)]
  simp only [Result.andThen]
  rw [Oper.upon_value]
  go_wp2
  rw [run_callFunc_extern Tryd.func18 (by kernel_rfl) (by kernel_rfl) (by kernel_rfl) (e := Extern.AbiNoEscape.same) (by kernel_rfl)]
  rw [Lib.run_noEscape]
  simp only [Result.andThen]
  rw [Oper.upon_value]
  go_wp2
  rw [Lib.run_from_unsafe w ⟨b, 0, none⟩ Tryd.underlying43 Tryd.underlying30 HJ.out HSH.out liesB]
  simp only [Result.andThen]
  rw [Oper.upon_value]
  go_wp2
  go_end0
  exact ⟨rfl, rfl⟩
set_option maxRecDepth 100000 in
set_option maxHeartbeats 1000000 in
theorem check_used (b : Nat) (w : World) (h0 : w.cell? ⟨b, 0, none⟩ = some (.pointer (some ⟨b, 0, none⟩))) :
    Calls Tryd.prog 16 #[.pointer (some ⟨b, 0, none⟩)] w fun e w' => e = .returned (.tuple #[]) ∧ w' = w := by
  obtain ⟨j, hj, hjs⟩ := Option.map_eq_some_iff.1 sizeB
  have HJ := hidden hj
  clear hj hjs
  go_enter Tryd.func16, Tryd.ntmps16
  go_wp2
  rw [Lib.run_neq_ptr_same w _ Tryd.underlying30 HJ.out]
  go_wp2
  go_end0
  exact ⟨rfl, rfl⟩
theorem check_any {B b : Nat} {l : List UInt8} {w : World} (h : BAt B b l w) :
    Calls Tryd.prog 16 #[.pointer (some ⟨b, 0, none⟩)] w fun e w' => e = .returned (.tuple #[]) ∧ Lib.BuilderAt 33 5 B b (.pointer (some ⟨b, 0, none⟩)) (Lib.byteCells l) w' ∧ Below B w w' := by
  rcases h with h | h
  · refine (check_fresh b w h.cell0 h.shape h.frozen0).mono ?_
    rintro e w' ⟨rfl, rfl⟩
    exact ⟨rfl, h.used _, (Below.refl B w).setCell (p := ⟨b, 0, none⟩) h.1 _⟩
  · refine (check_used b w h.cell0).mono ?_
    rintro e w' ⟨rfl, rfl⟩
    exact ⟨rfl, h, Below.refl B _⟩

set_option maxRecDepth 100000 in
set_option maxHeartbeats 1000000 in
theorem writeS_any {B b : Nat} {l : List UInt8} {w : World} (h : BAt B b l w) (t : List UInt8) (hBw : B ≤ w.heap.size) (hlen : l.length + t.length ≤ 140737488355328) :
    Calls Tryd.prog 11 #[.pointer (some ⟨b, 0, none⟩), .string (bs t)] w fun e w' => (∃ x y, e = .returned (.tuple #[x, y])) ∧ BAt B b (l ++ t) w' ∧ Below B w w' := by
  obtain ⟨i5, hi, hz, hsz, hby⟩ := info_byte
  have HI := hidden hi
  have HZ := hidden hz
  have HS := hidden hsz
  have HBY := hidden hby
  have HP := hidden h
  have HCL := hidden (byteCells_len l)
  clear hi hz hsz hby h
  go_enter Tryd.func11, Tryd.ntmps11
  go_wp2_with fail
  go_at_call 16
  refine (check_any HP.out).mono ?_
  rintro e w1 ⟨rfl, ⟨hB, v, hbk, hown, hne⟩, hq1⟩
  have HQ1 := hidden hq1
  have HO := hidden hown
  have HBK := hidden hbk
  have HNE := hidden hne
  have c0 : w1.cell? ⟨b, 0, none⟩ = some (.pointer (some ⟨b, 0, none⟩)) := by rw [Lib.cell_of_heap hbk]; rfl
  have c1 : w1.cell? ⟨b, 1, none⟩ = some v := by rw [Lib.cell_of_heap hbk]; rfl
  have hz1 : B ≤ w1.heap.size := Nat.le_trans hBw hq1.size
  have hlt : b < w1.heap.size := by
    rcases Nat.lt_or_ge b w1.heap.size with h' | h'
    · exact h'
    · simp [Array.getElem?_eq_none h'] at hbk
  have HST := hidden (bs_size t)
  clear hq1 hown hbk hne
  go_wp2_with (at_builtin; (refine Lib.wpList_append_own_string _ rfl (.tmp 12) (.tmp 13) 31 9 rfl B 5 i5 Tryd.underlying31 Tryd.underlying9 HI.out HZ.out HS.out HBY.out v _ _ rfl HO.out (bs t) rfl (by simp only [maxLen]; have := HST.out; have := HCL.out; omega) (by have := HST.out; have := HCL.out; omega) hz1 ?_); intro v' w2 hown2 hgrow2 hnil2; obtain ⟨ao, nn, cap, hv'⟩ : ∃ ao nn cap, v' = .slice ao nn cap := (by rcases hown2.2 with ⟨hv, _⟩ | ⟨g', cap, cur, hv, _⟩ <;> exact ⟨_, _, _, hv⟩); subst hv'; have HO2 := hidden hown2; have HG2 := hidden hgrow2; have hb2 : w2.heap[b]? = some (.cells #[.pointer (some ⟨b, 0, none⟩), v] 33 (0, 0)) := (hgrow2.block b hlt (fun e => HNE.out e.symm)).trans HBK.out; have HB2 := hidden hb2; have d0 : w2.cell? ⟨b, 0, none⟩ = some (.pointer (some ⟨b, 0, none⟩)) := (by rw [Lib.cell_of_heap hb2]; rfl); have d1 : w2.cell? ⟨b, 1, none⟩ = some v := (by rw [Lib.cell_of_heap hb2]; rfl); have f1 : w2.frozen? ⟨b, 1, none⟩ = false := Lib.frozen_of_heap hb2 1; clear hown2 hgrow2 hnil2 hb2 c0 c1)
  go_ret2
  refine ⟨⟨_, _, rfl⟩, Or.inr ?_, ?_⟩
  · refine Lib.BuilderAt.put (bs' := Lib.byteCells (l ++ t)) hB HB2.out ?_ (by decide)
    rw [byteCells_append, ← strCells_bs t]
    simpa [Lib.strCells_length] using HO2.out
  · exact HQ1.out.trans (((Below.refl B w1).grown HG2.out hz1 (fun k hk => (HO.out.lt k hk).1)).setCell (p := ⟨b, 1, none⟩) hB _)

set_option maxRecDepth 100000 in
set_option maxHeartbeats 1000000 in
theorem writeB_any {B b : Nat} {l : List UInt8} {w : World} (h : BAt B b l w) (hBw : B ≤ w.heap.size) (hlen : l.length + 1 ≤ 140737488355328) :
    Calls Tryd.prog 13 #[.pointer (some ⟨b, 0, none⟩), .int .u8 32] w fun e w' => e = .returned .nilIface ∧ BAt B b (l ++ [32]) w' ∧ Below B w w' := by
  obtain ⟨i5, hi, hz, hsz, hby⟩ := info_byte
  have HI := hidden hi
  have HZ := hidden hz
  have HS := hidden hsz
  have HBY := hidden hby
  have HP := hidden h
  have HCL := hidden (byteCells_len l)
  clear hi hz hsz hby h
  go_enter Tryd.func13, Tryd.ntmps13
  go_wp2_with fail
  go_at_call 16
  refine (check_any HP.out).mono ?_
  rintro e w1 ⟨rfl, ⟨hB, v, hbk, hown, hne⟩, hq1⟩
  have HQ1 := hidden hq1
  have HO := hidden hown
  have HBK := hidden hbk
  have HNE := hidden hne
  have c0 : w1.cell? ⟨b, 0, none⟩ = some (.pointer (some ⟨b, 0, none⟩)) := by rw [Lib.cell_of_heap hbk]; rfl
  have c1 : w1.cell? ⟨b, 1, none⟩ = some v := by rw [Lib.cell_of_heap hbk]; rfl
  have hz1 : B ≤ w1.heap.size := Nat.le_trans hBw hq1.size
  have hz2 : B ≤ (w1.alloc (.cells #[.int .u8 32] 5)).heap.size := by simp; omega
  have hlt : b < w1.heap.size := by
    rcases Nat.lt_or_ge b w1.heap.size with h' | h'
    · exact h'
    · simp [Array.getElem?_eq_none h'] at hbk
  clear hq1 hown hbk hne
  go_wp2_with (at_builtin; (refine wpList_append_own _ rfl (.tmp 11) (.tmp 13) 31 rfl B 5 i5 (.int .u8 0) 1 1 Tryd.underlying31 HI.out HZ.out HS.out HBY.out rfl (by decide) v _ _ rfl (HO.out.alloc _) ⟨w1.heap.size, 0, none⟩ 1 1 [.int .u8 32] rfl rfl (World.news_of_block (heap_new _ _)) (by simp [Value.oneCell']) (by simp only [maxLen]; have := HCL.out; omega) (by have := HCL.out; omega) hz2 ?_); intro v' w2 hown2 hgrow2 hnil2; obtain ⟨ao, nn, cap, hv'⟩ : ∃ ao nn cap, v' = .slice ao nn cap := (by rcases hown2.2 with ⟨hv, _⟩ | ⟨g', cap, cur, hv, _⟩ <;> exact ⟨_, _, _, hv⟩); subst hv'; have HO2 := hidden hown2; have HG2 := hidden hgrow2; have hb2 : w2.heap[b]? = some (.cells #[.pointer (some ⟨b, 0, none⟩), v] 33 (0, 0)) := (hgrow2.block b (by simp; omega) (fun e => HNE.out e.symm)).trans ((Lib.alloc_old w1 _ b hlt).trans HBK.out); have HB2 := hidden hb2; have d0 : w2.cell? ⟨b, 0, none⟩ = some (.pointer (some ⟨b, 0, none⟩)) := (by rw [Lib.cell_of_heap hb2]; rfl); have d1 : w2.cell? ⟨b, 1, none⟩ = some v := (by rw [Lib.cell_of_heap hb2]; rfl); have f1 : w2.frozen? ⟨b, 1, none⟩ = false := Lib.frozen_of_heap hb2 1; clear hown2 hgrow2 hnil2 hb2 c0 c1)
  go_ret
  refine ⟨rfl, Or.inr ?_, ?_⟩
  · refine Lib.BuilderAt.put (bs' := Lib.byteCells (l ++ [32])) hB HB2.out ?_ (by decide)
    rw [byteCells_append]
    simpa [Lib.byteCells] using HO2.out
  · exact HQ1.out.trans ((((Below.refl B w1).alloc hz1 _).grown HG2.out hz2 (fun k hk => (HO.out.lt k hk).1)).setCell (p := ⟨b, 1, none⟩) hB _)

end Go.Proofs.YtiillkhhnajmdaaDoor
