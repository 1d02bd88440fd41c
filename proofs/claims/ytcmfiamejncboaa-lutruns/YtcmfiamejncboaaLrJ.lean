import Derived.Test.YtcmfiamejncboaaLrI
import Derived.Laws.CopyOwn
import Derived.Lib.SliceRun
import Derived.Deep.RegionHeldLaw
namespace Go.Proofs.Ytcmfiamejncboaa
open Go.RowKit

theorem grown_of_drew {a b : World} {row : Option Nat} (h : a.drew.grownBy b row) : a.grownBy b row := ⟨h.os, h.tape, h.output, h.size, h.block⟩
theorem grown_drew (a : World) (row : Option Nat) : a.grownBy a.drew row := ⟨rfl, rfl, rfl, Nat.le_refl _, fun _ _ _ => rfl⟩
theorem grown_setRow (w : World) (g : Nat) (cs : Array Value) : w.grownBy (w.setRow g cs) (some g) := ⟨rfl, rfl, rfl, by simp [World.setRow], fun k _ hk => setRow_other w g k cs (fun e => hk (by simp [e]))⟩

theorem run_copy_grown {P : Program} {w : World} (dT sT ty : TypeId) (elem : TypeId) (hu : P.underlying dT = some (.slice elem)) (hsz : (P.info? elem).map (·.size) = some 1)
    (dp sp : Option Addr) (dLen dCap sLen sCap : Nat) (g off : Nat) (cur : List Value) (t : TypeId) (hg : w.heap[g]? = some (.cells cur.toArray t (0, 0))) (cs : List Value) (hn : cs.length = Nat.min sLen dLen)
    (hpos : 0 < cs.length → dp = some ⟨g, off, none⟩ ∧ ∃ ad, sp = some ad ∧ ∀ j v, cs[j]? = some v → w.cell? (ad.add j) = some v)
    (hfit : off + cs.length ≤ cur.length) (h1 : ∀ v ∈ cs, v.oneCell' = true) :
    ∃ w', (Builtin.copy_ #[dT, sT] ty #[.slice dp dLen dCap, .slice sp sLen sCap]).run P w = .ok (goInt cs.length) w' ∧ w'.heap[g]? = some (.cells (splice cur off cs).toArray t (0, 0)) ∧ w.grownBy w' (some g) := by
  by_cases h0 : cs.length = 0
  · obtain rfl : cs = [] := List.eq_nil_of_length_eq_zero h0
    have hrun := run_copy_none (P := P) w dT sT ty elem dp sp dLen dCap sLen sCap hu hsz (by simpa using hn.symm)
    exact ⟨w, by simpa using hrun, by simpa [splice] using hg, grown_refl _ _⟩
  · obtain ⟨rfl, ad, rfl, hsrc⟩ := hpos (by omega)
    have hrun := run_copy_row (P := P) w dT sT ty elem g off dLen dCap ad sLen sCap cur.toArray t cs hu hsz hg hn hsrc (by simpa using hfit) h1
    exact ⟨_, hrun, by simpa [splice] using setRow_heap w g _ _ t _ hg, grown_setRow _ _ _⟩

theorem wpList_copy_grown {P : Program} {w : World} {ops : Array Oper} {rest : List Oper} {o : Oper} {a : Act} {Q : Exit → Act → World → Prop} (hgd : o.guard = none) (d s : Operand) (dT sT : TypeId)
    (ho : o.op = .call { callee := .builtin .copy, args := #[d, s], argTypes := #[dT, sT] }) (elem : TypeId) (hu : P.underlying dT = some (.slice elem)) (hsz : (P.info? elem).map (·.size) = some 1)
    (dp sp : Option Addr) (dLen dCap sLen sCap : Nat) (hd : a.eval d = .slice dp dLen dCap) (hs : a.eval s = .slice sp sLen sCap)
    (g off : Nat) (cur : List Value) (t : TypeId) (hg : w.heap[g]? = some (.cells cur.toArray t (0, 0))) (cs : List Value) (hn : cs.length = Nat.min sLen dLen)
    (hpos : 0 < cs.length → dp = some ⟨g, off, none⟩ ∧ ∃ ad, sp = some ad ∧ ∀ j v, cs[j]? = some v → w.cell? (ad.add j) = some v)
    (hfit : off + cs.length ≤ cur.length) (h1 : ∀ v ∈ cs, v.oneCell' = true)
    (h : ∀ w', Hid (w'.heap[g]? = some (.cells (splice cur off cs).toArray t (0, 0))) → w.grownBy w' (some g) → wpList P ops Q rest (a.put o.dst (goInt cs.length)) w') :
    wpList P ops Q (o :: rest) a w := by
  refine wpList_plain hgd fun K hK => ?_
  obtain ⟨w', hrun, h2, h3⟩ := run_copy_grown (P := P) dT sT o.type elem hu hsz dp sp dLen dCap sLen sCap g off cur t hg cs hn hpos hfit h1
  unfold Oper.wp
  simp [execOp, ho, resolve, invoke, builtin, hd, hs, hrun, Result.andThen]
  exact hK _ _ (h w' h2 h3)

theorem step_copy_grown {P : Program} {ops : Array Oper} {o : Oper} {a : Act} {w : World} {K : Act → World → Prop} {Q : Exit → Act → World → Prop} {E : Prop} (hgd : o.guard = none) (d s : Operand) (dT sT : TypeId)
    (ho : o.op = .call { callee := .builtin .copy, args := #[d, s], argTypes := #[dT, sT] }) (elem : TypeId) (hu : P.underlying dT = some (.slice elem)) (hsz : (P.info? elem).map (·.size) = some 1)
    (dp sp : Option Addr) (dLen dCap sLen sCap : Nat) (hd : a.eval d = .slice dp dLen dCap) (hs : a.eval s = .slice sp sLen sCap)
    (g off : Nat) (cur : List Value) (t : TypeId) (hg : w.heap[g]? = some (.cells cur.toArray t (0, 0))) (cs : List Value) (hn : cs.length = Nat.min sLen dLen)
    (hpos : 0 < cs.length → dp = some ⟨g, off, none⟩ ∧ ∃ ad, sp = some ad ∧ ∀ j v, cs[j]? = some v → w.cell? (ad.add j) = some v)
    (hfit : off + cs.length ≤ cur.length) (h1 : ∀ v ∈ cs, v.oneCell' = true)
    (h : ∀ w', Hid (w'.heap[g]? = some (.cells (splice cur off cs).toArray t (0, 0))) → w.grownBy w' (some g) → K (a.put o.dst (goInt cs.length)) w') :
    if Region.wanted o (yielded ops a.tmps) = true then Oper.wp P o a w K Q else E := by
  have hw : Region.wanted o (yielded ops a.tmps) = true := by simp [Region.wanted, hgd]
  rw [if_pos hw]
  obtain ⟨w', hrun, h2, h3⟩ := run_copy_grown (P := P) dT sT o.type elem hu hsz dp sp dLen dCap sLen sCap g off cur t hg cs hn hpos hfit h1
  unfold Oper.wp
  simp [execOp, ho, resolve, invoke, builtin, hd, hs, hrun, Result.andThen]
  exact h w' h2 h3

theorem splice_map (a : List Bool) (k : Nat) (b : List Bool) : splice (a.map bV) k (b.map bV) = (splice a k b).map bV := by
  unfold splice; simp [List.map_take, List.map_drop]
theorem bool_size : (Try.prog.info? 4).map (·.size) = some 1 := by kernel_rfl
theorem oneB (l : List Bool) : ∀ v, v ∈ l.map bV → v.oneCell' = true := by
  intro v hv
  obtain ⟨y, _, rfl⟩ := List.mem_map.1 hv
  rfl


theorem grown_setCell (w : World) (g j : Nat) (u : Value) : w.grownBy (w.setCell ⟨g, j, none⟩ u) (some g) :=
  ⟨rfl, rfl, rfl, by simp, fun k _ hk => heap_setCell_other w ⟨g, j, none⟩ k u (fun e => hk (by simp [e]))⟩
theorem setCells_row {t : TypeId} (g : Nat) : ∀ (vs cur : List Value) (o : Nat) (w : World), w.heap[g]? = some (.cells cur.toArray t (0, 0)) → o + vs.length ≤ cur.length →
    (w.setCells g o vs).heap[g]? = some (.cells (splice cur o vs).toArray t (0, 0)) ∧ w.grownBy (w.setCells g o vs) (some g)
  | [], cur, o, w, hg, _ => by
    refine ⟨?_, grown_refl _ _⟩
    show w.heap[g]? = _
    rw [hg]; simp [splice]
  | v :: r, cur, o, w, hg, hl => by
    have hl' : o + r.length + 1 ≤ cur.length := by simpa [Nat.add_assoc] using hl
    have h1 : (w.setCell ⟨g, o, none⟩ v).heap[g]? = some (.cells (cur.set o v).toArray t (0, 0)) := by
      rw [heap_setCell_same w g o _ t v hg]; simp
    obtain ⟨h2, h3⟩ := setCells_row g r (cur.set o v) (o + 1) _ h1 (by simp; omega)
    refine ⟨?_, grown_trans (grown_setCell w g o v) h3⟩
    show ((w.setCell ⟨g, o, none⟩ v).setCells g (o + 1) r).heap[g]? = _
    rw [h2]
    have e1 : (cur.set o v).take (o + 1) = cur.take o ++ [v] := by
      rw [take_next _ o v (by simp [List.getElem?_set]; omega), List.take_set_of_le (Nat.le_refl _)]
    have e2 : (cur.set o v).drop (o + 1 + r.length) = cur.drop (o + (r.length + 1)) := by
      rw [List.drop_set_of_lt (by omega)]; congr 1; omega
    unfold splice
    rw [e1, e2]
    simp

theorem run_clear_grown {P : Program} {w : World} (t e ty : TypeId) (i : TypeInfo) (z : Value) (ht : P.underlying t = some (.slice e)) (hi : P.info? e = some i) (hzi : i.zero = some z) (hz : z.cells = #[z]) (h1 : z.oneCell' = true)
    (dp : Option Addr) (n c : Nat) (g off : Nat) (cur : List Value) (T : TypeId) (hg : w.heap[g]? = some (.cells cur.toArray T (0, 0))) (hpos : 0 < n → dp = some ⟨g, off, none⟩) (hfit : off + n ≤ cur.length) :
    ∃ w', (Builtin.clear_ #[t] ty #[.slice dp n c]).run P w = .ok (.tuple #[]) w' ∧ w'.heap[g]? = some (.cells (splice cur off (List.replicate n z)).toArray T (0, 0)) ∧ w.grownBy w' (some g) := by
  by_cases h0 : n = 0
  · subst h0
    refine ⟨w, ?_, by simpa [splice] using hg, grown_refl _ _⟩
    cases dp <;> simp [Builtin.clear_, run_underlying ht]
  · have hp := hpos (by omega)
    subst hp
    have hv : ∀ w, (zeroValue e).run P w = .ok z w := by
      intro w; simp [zeroValue, typeInfo, hi, hzi]
    have hr := Lib.run_clear_slice (P := P) w t e ty z ht hv hz h1 g off n c (by omega)
      (by
        intro j hj
        rw [cell_of_row w g (off + j) _ _ _ hg]
        have : off + j < cur.length := by omega
        simp [this])
      (by
        intro j _
        exact frozen_of_row w g (off + j) _ _ hg)
    obtain ⟨h2, h3⟩ := setCells_row g (List.replicate n z) cur off w hg (by simpa using hfit)
    exact ⟨_, hr, h2, h3⟩

theorem wpList_clear_grown {P : Program} {w : World} {ops : Array Oper} {rest : List Oper} {o : Oper} {a : Act} {Q : Exit → Act → World → Prop} (hgd : o.guard = none) (d : Operand) (t : TypeId)
    (ho : o.op = .call { callee := .builtin .clear, args := #[d], argTypes := #[t] }) (e : TypeId) (i : TypeInfo) (z : Value) (ht : P.underlying t = some (.slice e)) (hi : P.info? e = some i) (hzi : i.zero = some z) (hz : z.cells = #[z]) (h1 : z.oneCell' = true)
    (dp : Option Addr) (n c : Nat) (hd : a.eval d = .slice dp n c) (g off : Nat) (cur : List Value) (T : TypeId) (hg : w.heap[g]? = some (.cells cur.toArray T (0, 0))) (hpos : 0 < n → dp = some ⟨g, off, none⟩) (hfit : off + n ≤ cur.length)
    (h : ∀ w', Hid (w'.heap[g]? = some (.cells (splice cur off (List.replicate n z)).toArray T (0, 0))) → w.grownBy w' (some g) → wpList P ops Q rest (a.put o.dst (.tuple #[])) w') :
    wpList P ops Q (o :: rest) a w := by
  refine wpList_plain hgd fun K hK => ?_
  obtain ⟨w', hrun, h2, h3⟩ := run_clear_grown (P := P) (w := w) t e o.type i z ht hi hzi hz h1 dp n c g off cur T hg hpos hfit
  unfold Oper.wp
  simp [execOp, ho, resolve, invoke, builtin, hd, hrun, Result.andThen]
  exact hK _ _ (h w' h2 h3)


theorem grown_drewN {a b : World} {row : Option Nat} (h : a.grownBy b row) (n : Nat) : a.grownBy (b.drewN n) row := ⟨h.os, h.tape, h.output, h.size, h.block⟩
theorem BoxAt.grown {w w' : World} {p g : Nat} {S : NtS} {N : NtD} (h : BoxAt w p S N) (hg : w.grownBy w' (some g)) (hne : p ≠ g) : BoxAt w' p S N :=
  ⟨Nat.lt_of_lt_of_le h.lt hg.size, hg.cell h.c0 (by intro e; cases e; exact hne rfl), hg.cell h.c1 (by intro e; cases e; exact hne rfl), hg.cell h.c2 (by intro e; cases e; exact hne rfl), hg.cell h.c3 (by intro e; cases e; exact hne rfl), hg.cell h.c4 (by intro e; cases e; exact hne rfl)⟩
theorem MkT.turn {w w' : World} {mk gb g : Nat} {S : NtS} {N : NtD} {vals vals' : List Bool} (h : MkT w mk gb g S N vals) (hg : w.grownBy w' (some g)) (hmg : mk ≠ g) (hbg : gb ≠ g) (hl : vals'.length = vals.length) (hr : w'.heap[g]? = some (.cells (vals'.map bV).toArray 4 (0, 0))) : MkT w' mk gb g S N vals' :=
  ⟨hg.cell h.m0 (by intro e; cases e; exact hmg rfl), by rw [hl]; exact hg.cell h.m1 (by intro e; cases e; exact hmg rfl), Nat.lt_of_lt_of_le h.mlt hg.size, Nat.lt_of_lt_of_le h.glt hg.size, h.box.grown hg hbg, hr⟩

theorem rep_bV (n : Nat) : List.replicate n (Value.bool false) = (List.replicate n false).map bV := by simp [bV]
theorem split_at (P D : List Bool) (L F : Nat) (h : F = P.length + L) : (P ++ D.take L) ++ (P ++ D).drop F = P ++ D := by
  subst h
  rw [List.append_assoc, List.drop_append, List.drop_of_length_le (by omega), List.nil_append, Nat.add_sub_cancel_left, List.take_append_drop]


set_option maxRecDepth 100000 in
set_option maxHeartbeats 8000000 in
theorem clockT_any (w : World) (mk gb g : Nat) (S : NtS) (N : NtD) (vals : List Bool) (h : MkT w mk gb g S N vals) (hmg : mk ≠ g) (hbg : gb ≠ g) (ni : Nat) (hni : N.ins = (ni : Int)) (hnl : ni ≤ 60000) (hil : N.init.length ≤ 17592186044416) (hnx : N.next.length = N.init.length) (hv : 2 + ni + N.init.length ≤ vals.length) (hlen : vals.length ≤ 22000000000000) (HNX : Hid (RowAt w.heap.size w S.a3 1 (N.next.map intC))) (hin : ∀ s, s ∈ N.next → 0 ≤ s ∧ s < (vals.length : Int)) :
    Calls Try.prog 23 #[.pointer (some ⟨mk, 0, none⟩)] w fun e w' => (∃ v, e = .returned v) ∧ w'.heap[g]? = some (.cells ((splice vals (2 + ni) (nextT N vals)).map bV).toArray 4 (0, 0)) ∧ w.grownBy w' (some g) := by
  have HM := hidden h
  have m0 := h.m0
  have q3 := h.box.c3
  obtain ⟨lo, HLO⟩ : ∃ f : Nat, Hid (f = 2 + ni) := ⟨_, rfl⟩
  rw [← HLO.out]
  obtain ⟨nx, HNXT⟩ : ∃ nx, Hid (nextT N vals = nx) := ⟨_, rfl⟩
  rw [HNXT.out]
  have HNXL : Hid (nx.length = N.next.length) := by show _ = _; rw [← HNXT.out]; unfold nextT; simp
  have RG : Hid (∀ q, Calls Try.prog 28 #[.pointer (some ⟨mk, 0, none⟩)] (w.drewN q) fun e w' => (∃ dp dc, e = .returned (.slice dp N.init.length dc) ∧ (0 < N.init.length → dp = some ⟨g, lo, none⟩)) ∧ ∃ n, w' = (w.drewN q).drewN n) := fun q => by
    rw [HLO.out]
    exact registers_any (w.drewN q) mk gb g S N vals (h.to (Below.drewN (Below.refl _ _) q)) ni hni hnl hil hv hlen
  have TD : Hid (∀ w1, Below w.heap.size w w1 → Calls Try.prog 22 #[.pointer (some ⟨mk, 0, none⟩), .slice S.a3 N.next.length S.c3] w1 fun e w' => e = .returned (.slice (some ⟨w1.heap.size, 0, none⟩) N.next.length N.next.length) ∧ w'.ownsRow w1.heap.size 4 1 (.slice (some ⟨w1.heap.size, 0, none⟩) N.next.length N.next.length) N.next.length (nx.map bV) ∧ Below w1.heap.size w1 w') := fun w1 hb => by
    rw [← HNXT.out]
    exact toldT_any w1 mk gb g S N vals (h.to hb) (by simp only [huge]; omega) S.a3 S.c3 N.next ((HNX.out.to hb).mono hb.size) hin (by omega)
  have HFIT : Hid (lo + (nx.map bV).length ≤ (vals.map bV).length) := by show _ ≤ _; rw [List.length_map, List.length_map, HNXL.out, HLO.out, hnx]; omega
  have HNM : Hid ((nx.map bV).length = Nat.min N.next.length N.init.length) := by show _ = _; rw [List.length_map, HNXL.out, hnx]; exact (Nat.min_self _).symm
  have HPOS : Hid (∀ (v1 v2 : World) (dp : Option Addr), (0 < N.init.length → dp = some ⟨g, lo, none⟩) → v2.ownsRow v1.heap.size 4 1 (.slice (some ⟨v1.heap.size, 0, none⟩) N.next.length N.next.length) N.next.length (nx.map bV) → 0 < (nx.map bV).length → dp = some ⟨g, lo, none⟩ ∧ ∃ ad : Addr, some (⟨v1.heap.size, 0, none⟩ : Addr) = some ad ∧ ∀ (j : Nat) (v : Value), (nx.map bV)[j]? = some v → v2.cell? (ad.add j) = some v) := by
    intro v1 v2 dp hd ho hp
    rw [List.length_map, HNXL.out, hnx] at hp
    exact ⟨hd hp, _, rfl, fun j v hv => ho.cells (g := v1.heap.size) rfl j v hv⟩
  clear h hni hv hlen HNX hin hil hnl
  obtain ⟨nl, HNL⟩ : ∃ n, Hid (n = N.next.length) := ⟨_, rfl⟩
  obtain ⟨il, HIL⟩ : ∃ n, Hid (n = N.init.length) := ⟨_, rfl⟩
  rw [← HNL.out] at q3 TD HNM HPOS
  rw [← HIL.out] at RG HNM HPOS
  clear hnx HNXT
  obtain ⟨sa1, sc1, sa2, sc2, sa3, sc3, sa4, sc4⟩ := S
  dsimp only at *
  have KP : Hid (∀ w', w.grownBy w' (some g) → w'.cell? ⟨mk, 0, none⟩ = some (.pointer (some ⟨gb, 0, none⟩)) ∧ w'.cell? ⟨gb, 3, none⟩ = some (.slice sa3 nl sc3)) := fun w' hw' => ⟨hw'.cell m0 (by intro e; cases e; exact hmg rfl), hw'.cell q3 (by intro e; cases e; exact hbg rfl)⟩
  have HG0 : w.grownBy w.drew (some g) := grown_drew _ _
  go_enter Try.func23, Try.ntmps23
  go_upto_region 0 with fail
  refine wp_region_noPanic ?_
  refine wp_region_held_drew (S := (fun w' => w'.cell? ⟨mk, 0, none⟩ = some (.pointer (some ⟨gb, 0, none⟩)) ∧ w'.cell? ⟨gb, 3, none⟩ = some (.slice sa3 nl sc3))) (by kernel_rfl) (by first | assumption | exact KP.out _ (by assumption)) (fun hHeld => ?_)
  refine wpAnyH_take (i := 0) (oi := _) (v := ?_) rfl (by kernel_rfl) (by kernel_rfl) (by kernel_rfl) (fun _ _ _ h => h) (Or.inl ⟨by rfl, ?_⟩) (by assumption) ?_
  rotate_left
  · (intro w0 hSw; (try dsimp only at hSw); (try simp only [List.getElem_toArray, List.getElem_cons_zero]); go_simp; try (with_reducible rfl))
  try simp only [Act.put, List.getElem_toArray, List.getElem_cons_zero, List.setIfInBounds_toArray, List.set_cons_zero, List.set_cons_succ]
  refine wpAnyH_take (i := 2) (oi := _) (v := ?_) rfl (by kernel_rfl) (by kernel_rfl) (by kernel_rfl) (fun _ _ _ h => h) (Or.inl ⟨by rfl, ?_⟩) (by assumption) ?_
  rotate_left
  · (intro w0 hSw; (try dsimp only at hSw); (try simp only [List.getElem_toArray, List.getElem_cons_zero, List.getElem_cons_succ]); go_simp; try (with_reducible rfl))
  try simp only [Act.put, List.getElem_toArray, List.getElem_cons_zero, List.getElem_cons_succ, List.setIfInBounds_toArray, List.set_cons_zero, List.set_cons_succ]
  refine wpAnyH_take (i := 3) (oi := _) (v := ?_) rfl (by kernel_rfl) (by kernel_rfl) (by kernel_rfl) (fun _ _ _ h => h) (Or.inl ⟨by rfl, ?_⟩) (by assumption) ?_
  rotate_left
  · (intro w0 hSw; (try dsimp only at hSw); (try simp only [List.getElem_toArray, List.getElem_cons_zero, List.getElem_cons_succ]); go_simp; try (with_reducible rfl))
  try simp only [Act.put, List.getElem_toArray, List.getElem_cons_zero, List.getElem_cons_succ, List.setIfInBounds_toArray, List.set_cons_zero, List.set_cons_succ]
  refine wpAnyH_take (i := 4) (oi := _) (v := ?_) rfl (by kernel_rfl) (by kernel_rfl) (by kernel_rfl) (fun _ _ _ h => h) (Or.inl ⟨by rfl, ?_⟩) (by assumption) ?_
  rotate_left
  · (intro w0 hSw; (try dsimp only at hSw); (try simp only [List.getElem_toArray, List.getElem_cons_zero, List.getElem_cons_succ]); go_simp; try (with_reducible rfl))
  try simp only [Act.put, List.getElem_toArray, List.getElem_cons_zero, List.getElem_cons_succ, List.setIfInBounds_toArray, List.set_cons_zero, List.set_cons_succ]
  refine wpAnyH_take (i := 5) (oi := _) (v := ?_) rfl (by kernel_rfl) (by kernel_rfl) (by kernel_rfl) (fun _ _ _ h => h) (Or.inl ⟨by rfl, ?_⟩) (by assumption) ?_
  rotate_left
  · (intro w0 hSw; (try dsimp only at hSw); (try simp only [List.getElem_toArray, List.getElem_cons_zero, List.getElem_cons_succ]); go_simp; try (with_reducible rfl))
  try simp only [Act.put, List.getElem_toArray, List.getElem_cons_zero, List.getElem_cons_succ, List.setIfInBounds_toArray, List.set_cons_zero, List.set_cons_succ]
  refine wpAnyH_take (i := 6) (oi := _) (v := ?_) rfl (by kernel_rfl) (by kernel_rfl) (by kernel_rfl) (fun _ _ _ h => h) (Or.inl ⟨by rfl, ?_⟩) (by assumption) ?_
  rotate_left
  · (intro w0 hSw; (try dsimp only at hSw); (try simp only [List.getElem_toArray, List.getElem_cons_zero, List.getElem_cons_succ]); go_simp; try (with_reducible rfl))
  try simp only [Act.put, List.getElem_toArray, List.getElem_cons_zero, List.getElem_cons_succ, List.setIfInBounds_toArray, List.set_cons_zero, List.set_cons_succ]
  refine wpAnyH_take (i := 7) (oi := _) (v := ?_) rfl (by kernel_rfl) (by kernel_rfl) (by kernel_rfl) (fun _ _ _ h => h) (Or.inl ⟨by rfl, ?_⟩) (by assumption) ?_
  rotate_left
  · (intro w0 hSw; (try dsimp only at hSw); (try simp only [List.getElem_toArray, List.getElem_cons_zero, List.getElem_cons_succ]); go_simp; try (with_reducible rfl))
  try simp only [Act.put, List.getElem_toArray, List.getElem_cons_zero, List.getElem_cons_succ, List.setIfInBounds_toArray, List.set_cons_zero, List.set_cons_succ]
  refine wpAnyH_take (i := 8) (oi := _) (v := ?_) rfl (by kernel_rfl) (by kernel_rfl) (by kernel_rfl) (fun _ _ _ h => h) (Or.inl ⟨by rfl, ?_⟩) (by assumption) ?_
  rotate_left
  · (intro w0 hSw; (try dsimp only at hSw); (try simp only [List.getElem_toArray, List.getElem_cons_zero, List.getElem_cons_succ]); go_simp; try (with_reducible rfl))
  try simp only [Act.put, List.getElem_toArray, List.getElem_cons_zero, List.getElem_cons_succ, List.setIfInBounds_toArray, List.set_cons_zero, List.set_cons_succ]
  refine wpAnyH_take (i := 9) (oi := _) (v := ?_) rfl (by kernel_rfl) (by kernel_rfl) (by kernel_rfl) (fun _ _ _ h => h) (Or.inl ⟨by rfl, ?_⟩) (by assumption) ?_
  rotate_left
  · (intro w0 hSw; (try dsimp only at hSw); (try simp only [List.getElem_toArray, List.getElem_cons_zero, List.getElem_cons_succ]); go_simp; try (with_reducible rfl))
  try simp only [Act.put, List.getElem_toArray, List.getElem_cons_zero, List.getElem_cons_succ, List.setIfInBounds_toArray, List.set_cons_zero, List.set_cons_succ]
  refine wpAnyH_ready (rs := [1]) (by kernel_rfl) (by simp) ?_
  refine AllReadyH.cons (o := _) rfl (fun K hK => ?_) AllReadyH.nil
  (try simp only [List.getElem_toArray, List.getElem_cons_zero, List.getElem_cons_succ])
  go_simp
  go_at_call 28
  refine (RG.out _).mono ?_
  rintro e v1 ⟨⟨dp, dc, rfl, hdp⟩, n1, hv1⟩
  have HG1 : w.grownBy v1 (some g) := by rw [hv1]; exact grown_drewN (grown_drew _ _) _
  have HB1 : Below w.heap.size w v1 := by rw [hv1]; exact Below.drewN (Below.drewN (Below.refl _ _) 1) _
  have HDP := hidden hdp
  clear hv1 hdp
  go_wp2_with fail
  refine hK.out _ _ (by first | assumption | exact KP.out _ (by assumption)) (fun hHeld1 => ?_)
  clear hK K
  (try simp only [Act.put]); (try simp only [List.setIfInBounds_toArray]); (try simp only [List.set_cons_zero, List.set_cons_succ])
  refine wpAnyH_ready (rs := [10]) (by kernel_rfl) (by simp) ?_
  refine AllReadyH.cons (o := _) rfl (fun K hK => ?_) AllReadyH.nil
  (try simp only [List.getElem_toArray, List.getElem_cons_zero, List.getElem_cons_succ])
  go_simp
  go_at_call 22
  refine (TD.out _ HB1).mono ?_
  rintro e v2 ⟨rfl, hown2, hbl2⟩
  have HB2 : Below w.heap.size w v2 := HB1.trans (hbl2.mono HB1.size)
  have HG2 : w.grownBy v2 (some g) := ⟨HB2.os, HB2.tape, HB2.output, HB2.size, fun k hk _ => HB2.block k hk⟩
  have HO2 := hidden hown2
  clear hown2 hbl2
  go_wp2_with fail
  refine hK.out _ _ (by first | assumption | exact KP.out _ (by assumption)) (fun hHeld2 => ?_)
  clear hK K
  (try simp only [Act.put]); (try simp only [List.setIfInBounds_toArray]); (try simp only [List.set_cons_zero, List.set_cons_succ])
  refine wpAnyH_ready (rs := [11]) (by kernel_rfl) (by simp) ?_
  refine AllReadyH.cons (o := _) rfl (fun K hK => ?_) AllReadyH.nil
  refine step_copy_grown rfl (.tmp 3) (.tmp 12) 22 22 rfl 4 Try.underlying22 bool_size _ _ _ _ _ _ rfl rfl g lo (vals.map bV) 4 ((HB2.block g HM.out.glt).trans HM.out.row) (nx.map bV) HNM.out (HPOS.out _ _ _ HDP.out HO2.out) HFIT.out (oneB nx) ?_
  intro v3 hg3 hr3
  have HG3 : w.grownBy v3 (some g) := grown_trans HG2 hr3
  clear hr3
  refine hK.out _ _ (by first | assumption | exact KP.out _ (by assumption)) (fun hHeld3 => ?_)
  clear hK K
  (try simp only [Act.put]); (try simp only [List.setIfInBounds_toArray]); (try simp only [List.set_cons_zero, List.set_cons_succ])
  refine wpAnyH_done (by kernel_rfl) ?_ _
  refine NoPanic.normal ?_
  have HSP : Hid (v3.heap[g]? = some (.cells ((splice vals lo nx).map bV).toArray 4 (0, 0))) := by
    have := hg3.out
    rw [splice_map] at this
    exact this
  have HG4 := hidden HG3
  clear hg3
  go_wp2_with fail
  go_end0
  exact ⟨⟨_, rfl⟩, HSP.out, HG4.out⟩

end Go.Proofs.Ytcmfiamejncboaa
