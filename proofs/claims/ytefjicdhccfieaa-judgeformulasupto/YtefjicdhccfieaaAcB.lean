import Derived.Test.YtefjicdhccfieaaAgG
import Derived.Test.YtefjicdhccfieaaSaH
import Derived.ChangeKeysEq
namespace Go.Proofs.Ytefjicdhccfieaa
open Go.RowKit

theorem info_intS : (Try.prog.info? 3).map (fun i => i.size) = some 1 := by kernel_rfl
theorem pair_eq (w : World) (x y : Int) : (Op.equalIn 10000 33 (.agg #[.int .i64 x, .int .i64 y]) (.agg #[.int .i64 x, .int .i64 y])).run Try.prog w = .ok true w := by
  obtain ⟨i, hi⟩ : ∃ i, Try.prog.info? 3 = some i := by
    have h := info_intS
    cases hi : Try.prog.info? 3 with
    | none => rw [hi] at h; cases h
    | some i => exact ⟨i, rfl⟩
  rw [run_equalIn_array w 9999 _ _ Try.underlying33 hi, show Try.prog.cellsOf 3 = 1 by kernel_rfl, show List.range 2 = [0, 1] from rfl]
  simp only [Op.eqItems]
  go_simp

set_option maxRecDepth 100000 in
set_option maxHeartbeats 8000000 in
theorem sameGraph_any (B : Nat) (w : World) (S T : GrS) (G : GrD) (h : GrAt B w S G) (h' : GrAt B w T G) (hB : B ≤ w.heap.size) :
    Calls Try.prog 25 #[.agg (S.cells G), .agg (T.cells G)] w fun e w' => e = .returned (.bool true) ∧ Below w.heap.size w w' := by
  have l1 := h.ll
  have l2 := h.la
  have l3 := h.lo
  simp only [big] at l1 l2 l3
  unfold GrS.cells at *
  go_enter Try.func25, Try.ntmps25
  go_wp2_with fail
  generalize hW : World.alloc (World.alloc w _) _ = W
  have HB : Hid (Below w.heap.size w W) := by rw [← hW]; exact ((Below.refl _ _).alloc (Nat.le_refl _) _).alloc (by simp) _
  have hN : w.heap.size < W.heap.size := by rw [← hW]; simp; omega
  have hN' : w.heap.size + 1 < W.heap.size := by rw [← hW]; simp
  have QN : Hid (∀ j, W.cell? ⟨w.heap.size, j, none⟩ = (#[.int .i64 G.ins, .slice S.a1 G.lats.length S.c1, .slice S.a2 G.ands.length S.c2, .slice S.a3 G.outs.length S.c3] : Array Value)[j]?) := by
    rw [← hW]; intro j
    rw [World.cell?_alloc_lt _ _ _ (by simp)]; exact cell_newG rfl
  have QN' : Hid (∀ j, W.cell? ⟨w.heap.size + 1, j, none⟩ = (#[.int .i64 G.ins, .slice T.a1 G.lats.length T.c1, .slice T.a2 G.ands.length T.c2, .slice T.a3 G.outs.length T.c3] : Array Value)[j]?) := by
    rw [← hW]; intro j; exact cell_newG (by simp)
  have HAW : Hid (GrAt B W S G) := h.to (HB.out.mono hB)
  have HAW' : Hid (GrAt B W T G) := h'.to (HB.out.mono hB)
  have hBW : B ≤ W.heap.size := Nat.le_trans hB HB.out.size
  have HBS : Hid (Below W.heap.size W W) := Below.refl _ _
  clear hW h h'
  go_loopw [5] (fun i' w' => ∃ (k : Nat), k ≤ G.lats.length ∧ i' = .int .i64 k ∧ Hid (Below W.heap.size W w')) (fun i' _ => G.lats.length - (intOf i').toNat)
  case atStart => exact ⟨0, Nat.zero_le _, rfl, HBS.out⟩
  case round =>
    obtain ⟨k, hk, rfl, HBr⟩ := hrel
    have q1 : wr.cell? ⟨w.heap.size, 1, none⟩ = some (.slice S.a1 G.lats.length S.c1) := (HBr.out.cell (p := ⟨w.heap.size, 1, none⟩) hN).trans (QN.out 1)
    have q2 : wr.cell? ⟨w.heap.size + 1, 1, none⟩ = some (.slice T.a1 G.lats.length T.c1) := (HBr.out.cell (p := ⟨w.heap.size + 1, 1, none⟩) hN').trans (QN'.out 1)
    by_cases hlt : k < G.lats.length
    · obtain ⟨d, hd⟩ := getElem_lt hlt
      obtain ⟨b, o, ea, hlb, hc⟩ := HAW.out.l.el hd
      obtain ⟨b', o', ea', hlb', hc'⟩ := HAW'.out.l.el hd
      have hbW : b < W.heap.size := Nat.lt_of_lt_of_le hlb hBW
      have hbW' : b' < W.heap.size := Nat.lt_of_lt_of_le hlb' hBW
      rw [ea] at q1
      rw [ea'] at q2
      have c0 : wr.cell? ⟨b, o + k * 2, none⟩ = some (.int .i64 d.next) := (HBr.out.cell (p := ⟨b, o + k * 2, none⟩) hbW).trans (hc 0 _ rfl)
      have e0 : wr.cell? ⟨b', o' + k * 2, none⟩ = some (.int .i64 d.next) := (HBr.out.cell (p := ⟨b', o' + k * 2, none⟩) hbW').trans (hc' 0 _ rfl)
      have c1 : wr.cell? ⟨b, o + k * 2 + 1, none⟩ = some (.bool d.init) := (HBr.out.cell (p := ⟨b, o + k * 2 + 1, none⟩) hbW).trans (hc 1 _ rfl)
      have e1 : wr.cell? ⟨b', o' + k * 2 + 1, none⟩ = some (.bool d.init) := (HBr.out.cell (p := ⟨b', o' + k * 2 + 1, none⟩) hbW').trans (hc' 1 _ rfl)
      have hltI : (k : Int) < (G.lats.length : Int) := by omega
      have e9 : IntKind.i64.wrap ((k : Int) + 1) = (k : Int) + 1 := wrapI _ (by omega) (by omega)
      clear hd hc hc' ea ea' hlb hlb'
      go_wp2_with fail
      go_quiet (fail)
      go_wp2
      go_roundw
      case measure => simp [intOf]; omega
      case rel => exact ⟨k + 1, by omega, by simp, Below.drewN HBr.out _⟩
    · have hge : ¬ ((k : Int) < (G.lats.length : Int)) := by omega
      have HBS := HBr
      clear HBr
      go_wp2_with fail
      go_loopw [6] (fun i' w' => ∃ (k : Nat), k ≤ G.ands.length ∧ i' = .int .i64 k ∧ Hid (Below W.heap.size W w')) (fun i' _ => G.ands.length - (intOf i').toNat)
      case atStart => exact ⟨0, Nat.zero_le _, rfl, HBS.out⟩
      case round =>
        obtain ⟨k, hk, rfl, HBr⟩ := hrel
        have q1 : wr.cell? ⟨w.heap.size, 2, none⟩ = some (.slice S.a2 G.ands.length S.c2) := (HBr.out.cell (p := ⟨w.heap.size, 2, none⟩) hN).trans (QN.out 2)
        have q2 : wr.cell? ⟨w.heap.size + 1, 2, none⟩ = some (.slice T.a2 G.ands.length T.c2) := (HBr.out.cell (p := ⟨w.heap.size + 1, 2, none⟩) hN').trans (QN'.out 2)
        by_cases hlt : k < G.ands.length
        · obtain ⟨d, hd⟩ := getElem_lt hlt
          obtain ⟨b, o, ea, hlb, hc⟩ := HAW.out.a.el hd
          obtain ⟨b', o', ea', hlb', hc'⟩ := HAW'.out.a.el hd
          have hbW : b < W.heap.size := Nat.lt_of_lt_of_le hlb hBW
          have hbW' : b' < W.heap.size := Nat.lt_of_lt_of_le hlb' hBW
          rw [ea] at q1
          rw [ea'] at q2
          have eqA := fun w : World => pair_eq w d.x d.y
          have c0 : wr.cell? ⟨b, o + k * 2, none⟩ = some (.int .i64 d.x) := (HBr.out.cell (p := ⟨b, o + k * 2, none⟩) hbW).trans (hc 0 _ rfl)
          have e0 : wr.cell? ⟨b', o' + k * 2, none⟩ = some (.int .i64 d.x) := (HBr.out.cell (p := ⟨b', o' + k * 2, none⟩) hbW').trans (hc' 0 _ rfl)
          have c1 : wr.cell? ⟨b, o + k * 2 + 1, none⟩ = some (.int .i64 d.y) := (HBr.out.cell (p := ⟨b, o + k * 2 + 1, none⟩) hbW).trans (hc 1 _ rfl)
          have e1 : wr.cell? ⟨b', o' + k * 2 + 1, none⟩ = some (.int .i64 d.y) := (HBr.out.cell (p := ⟨b', o' + k * 2 + 1, none⟩) hbW').trans (hc' 1 _ rfl)
          have hltI : (k : Int) < (G.ands.length : Int) := by omega
          have e9 : IntKind.i64.wrap ((k : Int) + 1) = (k : Int) + 1 := wrapI _ (by omega) (by omega)
          clear hd hc hc' ea ea' hlb hlb'
          go_wp2_with fail
          go_quiet (fail)
          go_wp2
          go_roundw
          case measure => simp [intOf]; omega
          case rel => exact ⟨k + 1, by omega, by simp, Below.drewN HBr.out _⟩
        · have hge : ¬ ((k : Int) < (G.ands.length : Int)) := by omega
          have HBS := HBr
          clear HBr
          go_wp2_with fail
          go_loopw [7] (fun i' w' => ∃ (k : Nat), k ≤ G.outs.length ∧ i' = .int .i64 k ∧ Hid (Below W.heap.size W w')) (fun i' _ => G.outs.length - (intOf i').toNat)
          case atStart => exact ⟨0, Nat.zero_le _, rfl, HBS.out⟩
          case round =>
            obtain ⟨k, hk, rfl, HBr⟩ := hrel
            have q1 : wr.cell? ⟨w.heap.size, 3, none⟩ = some (.slice S.a3 G.outs.length S.c3) := (HBr.out.cell (p := ⟨w.heap.size, 3, none⟩) hN).trans (QN.out 3)
            have q2 : wr.cell? ⟨w.heap.size + 1, 3, none⟩ = some (.slice T.a3 G.outs.length T.c3) := (HBr.out.cell (p := ⟨w.heap.size + 1, 3, none⟩) hN').trans (QN'.out 3)
            by_cases hlt : k < G.outs.length
            · obtain ⟨d, hd⟩ := getElem_lt hlt
              obtain ⟨b, o, ea, hlb, hc⟩ := HAW.out.o.el hd
              obtain ⟨b', o', ea', hlb', hc'⟩ := HAW'.out.o.el hd
              have hbW : b < W.heap.size := Nat.lt_of_lt_of_le hlb hBW
              have hbW' : b' < W.heap.size := Nat.lt_of_lt_of_le hlb' hBW
              rw [ea] at q1
              rw [ea'] at q2
              have c0 : wr.cell? ⟨b, o + k, none⟩ = some (.int .i64 d) := (HBr.out.cell (p := ⟨b, o + k, none⟩) hbW).trans (by have := hc 0 _ rfl; simpa using this)
              have e0 : wr.cell? ⟨b', o' + k, none⟩ = some (.int .i64 d) := (HBr.out.cell (p := ⟨b', o' + k, none⟩) hbW').trans (by have := hc' 0 _ rfl; simpa using this)
              have hltI : (k : Int) < (G.outs.length : Int) := by omega
              have e9 : IntKind.i64.wrap ((k : Int) + 1) = (k : Int) + 1 := wrapI _ (by omega) (by omega)
              clear hd hc hc' ea ea' hlb hlb'
              go_wp2_with fail
              go_quiet (fail)
              go_wp2
              go_roundw
              case measure => simp [intOf]; omega
              case rel => exact ⟨k + 1, by omega, by simp, Below.drewN HBr.out _⟩
            · have hge : ¬ ((k : Int) < (G.outs.length : Int)) := by omega
              have HBS := HBr
              clear HBr
              go_wp2
              go_ret
              exact ⟨rfl, HB.out.trans (HBS.out.mono HB.out.size)⟩

end Go.Proofs.Ytefjicdhccfieaa
