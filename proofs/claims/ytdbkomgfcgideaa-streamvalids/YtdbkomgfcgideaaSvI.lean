import Derived.Test.YtdbkomgfcgideaaSvA
import Derived.Test.YtdbkomgfcgideaaSvR
import Derived.Shelf.Abstract
import Derived.Shelf.RegionOpen
import Derived.OwnWalkIn
import Derived.TacticsInMore
import Derived.LoopNIn
import Derived.LoopIn
namespace Go.Proofs.Ytdbkomgfcgideaa
open Go.RowKit Go.Shelf
theorem wide_fn (f : FuncId) : Fence.wide.fn f = True := rfl
theorem wide_depth : (Fence.wide.depth.isSome = true) = False := by simp [Fence.wide]
attribute [local go_sem] Oper.semAt_some wide_fn wide_depth

def endF (N : CnD) : Int := N.sh.src (-1)
/-- the numbers of the outputs -/
def outL (N : CnD) : List (Int × Int) := N.outs.map fun x => (x, endF N)
theorem okPs_take {α : Type} (f : α → Int × Int) (l : List α) (k : Nat) (x : α) (h : l[k]? = some x) : okPs ((l.take (k + 1)).map f) = (okPs ((l.take k).map f) && okP (f x).1 (f x).2) := by
  unfold okPs
  rw [take_next l k x h, List.map_append, List.all_append]; simp
theorem okPs_no {α : Type} (f : α → Int × Int) (l : List α) (x : α) (h : x ∈ l) (hx : okP (f x).1 (f x).2 = false) : okPs (l.map f) = false := by
  unfold okPs
  rw [List.all_eq_false]
  exact ⟨f x, List.mem_map_of_mem h, by simp [hx]⟩

set_option maxRecDepth 100000 in
set_option maxHeartbeats 16000000 in
theorem outFields_it (B : Nat) (w0 : World) (S : CnS) (N : CnD) (bx pc : Nat) (hbx : bx < w0.heap.size) (hB : B ≤ w0.heap.size) (h : CnAt B w0 S N) (hf : N.sh.fits) (hp : BoxAt w0 pc S N)
    (hc : w0.cell? ⟨bx, 0, none⟩ = some (.pointer (some ⟨pc, 0, none⟩))) : ItC Try.prog 23 #[.pointer (some ⟨bx, 0, none⟩)] (outL N) w0 := by
  intro V0 l st V m hb0 hy hb1
  have HY := hidden hy
  have HN0 := hidden hb0
  have HB1 := hidden hb1
  have EC : Hid (∀ w, Calls Try.prog 22 #[.agg N.sh.arr] w fun e w' => e = .returned (.int .i64 (endF N)) ∧ Below w.heap.size w w') := fun w => endChoices_any w N.sh hf
  have HH := hidden h
  have HP := hidden hp
  have HC := hidden hc
  have hln := h.lo
  simp only [big] at hln
  clear h hp hc hy hb0 hb1
  refine callsIn_of_wp Try.func23 rfl trivial ?_ rfl
  simp only [Try.ntmps23, List.size_toArray, List.length_cons, List.length_nil, Nat.reduceAdd, Nat.reduceSub, Array.replicate_succ, Array.replicate_zero, List.push_toArray, List.append_toArray, List.nil_append, List.cons_append]
  have up : Hid (∀ {W}, Below V0.heap.size V0 W → Below w0.heap.size w0 W) := fun {W} hW => HN0.out.trans (hW.mono HN0.out.size)
  have q0 : V.cell? ⟨bx, 0, none⟩ = some (.pointer (some ⟨pc, 0, none⟩)) := ((up.out HB1.out).cell (p := ⟨bx, 0, none⟩) hbx).trans HC.out
  have q1 := (HP.out.to HP.out.lt (up.out HB1.out)).c7
  gi_wp2
  gi_loopw [10] (fun i' w' => ∃ (k : Nat), k ≤ N.outs.length ∧ i' = .int .i64 k ∧ Hid (okPs ((N.outs.take k).map fun x => (x, endF N)) = true) ∧ Hid (Below V0.heap.size V0 w')) (fun i' _ => N.outs.length - (intOf i').toNat)
  case atStart => exact ⟨0, Nat.zero_le _, rfl, rfl, HB1.out⟩
  case round =>
    clear q0 q1
    obtain ⟨k, hk, rfl, HA, HBW⟩ := hrel
    have q0 : wr.cell? ⟨bx, 0, none⟩ = some (.pointer (some ⟨pc, 0, none⟩)) := ((up.out HBW.out).cell (p := ⟨bx, 0, none⟩) hbx).trans HC.out
    by_cases hlt : k < N.outs.length
    · have hltI : (k : Int) < (N.outs.length : Int) := by omega
      obtain ⟨x, hd⟩ := getElem_lt hlt
      obtain ⟨b, o, ea, hlb, hc⟩ := HH.out.o.int hd
      have hbx' := (HP.out.to HP.out.lt (up.out HBW.out))
      have y0 := hbx'.c0
      have y1 := hbx'.c1
      have y2 := hbx'.c2
      have y3 := hbx'.c3
      have y4 := hbx'.c4
      have c0 : wr.cell? ⟨b, o + k, none⟩ = some (.int .i64 x) := ((up.out HBW.out).cell (p := ⟨b, o + k, none⟩) (Nat.lt_of_lt_of_le hlb hB)).trans hc
      have HD := hidden hd
      have e2 : IntKind.i64.wrap ((k : Int) + 1) = (k : Int) + 1 := wrapI _ (by omega) (by omega)
      rw [ea]
      clear hd hc hlb ea hbx'
      cases ho : okP x (endF N)
      · have HF := hidden (show okPs (outL N) = false from okPs_no _ _ x (List.mem_of_getElem? HD.out) ho)
        gi_wp2_with (gi_at_call 22; refine (callsIn_wide.2 (EC.out _)).mono ?_; rintro e v ⟨rfl, hbv⟩; have hbV : Below V0.heap.size V0 v := HBW.out.trans (hbv.mono HBW.out.size); obtain ⟨fn, tmps, assign, body, hy, hR⟩ := HY.out.no v x (endF N) (m - 1) hbV ho)
        refine hR.mono ?_
        clear hR hy
        rintro e W1 ⟨rfl, h1⟩
        have HW1 := hidden h1
        clear h1
        gi_wp2
        refine bodyPost_ret (results_none rfl _ _ _) rfl ?_
        exact ⟨⟨_, rfl⟩, v, hbV, .inr ⟨HF.out, by rw [HW1.out]; exact Below.refl _ _⟩⟩
      · have HN1 := hidden (show okPs ((N.outs.take (k + 1)).map fun x => (x, endF N)) = true by rw [okPs_take _ _ k x HD.out, HA.out, ho]; rfl)
        gi_wp2_with (gi_at_call 22; refine (callsIn_wide.2 (EC.out _)).mono ?_; rintro e v ⟨rfl, hbv⟩; have hbV : Below V0.heap.size V0 v := HBW.out.trans (hbv.mono HBW.out.size); obtain ⟨fn, tmps, assign, body, hy, hR⟩ := HY.out.go v x (endF N) (m - 1) hbV ho)
        refine hR.mono ?_
        clear hR hy
        rintro e W1 ⟨rfl, rfl⟩
        gi_wp2
        go_roundw
        case measure => simp [intOf]; omega
        case rel => exact ⟨k + 1, by omega, by simp, HN1.out, hbV⟩
    · have hge : ¬ ((k : Int) < (N.outs.length : Int)) := by omega
      have HT : Hid (okPs (outL N) = true) := by
        have := HA.out
        rw [List.take_of_length_le (by omega)] at this
        exact this
      gi_wp2
      go_end0
      exact ⟨⟨_, rfl⟩, wr, HBW.out, .inl ⟨HT.out, rfl⟩⟩

end Go.Proofs.Ytdbkomgfcgideaa
