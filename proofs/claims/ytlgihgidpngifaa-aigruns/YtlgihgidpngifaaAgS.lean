import Derived.Test.YtlgihgidpngifaaAgR
import Derived.Laws.CopyOwn
import Derived.Deep.RegionHeldLaw
namespace Go.Proofs.Ytlgihgidpngifaa
open Go.RowKit

theorem grown_of_drew {a b : World} {row : Option Nat} (h : a.drew.grownBy b row) : a.grownBy b row := ⟨h.os, h.tape, h.output, h.size, h.block⟩
theorem grown_drew (a : World) (row : Option Nat) : a.grownBy a.drew row := ⟨rfl, rfl, rfl, Nat.le_refl _, fun _ _ _ => rfl⟩
theorem grown_setRow (w : World) (g : Nat) (cs : Array Value) : w.grownBy (w.setRow g cs) (some g) := ⟨rfl, rfl, rfl, by simp [World.setRow], fun k _ hk => setRow_other w g k cs (fun e => hk (by simp [e]))⟩

theorem run_copy_grown {P : Program} {w : World} (dT sT ty : TypeId) (elem : TypeId) (hu : P.underlying dT = some (.slice elem)) (hsz : (P.info? elem).map (·.size) = some 1)
    (dp sp : Option Addr) (dLen dCap sLen sCap : Nat) (g off : Nat) (cur : List Value) (t : TypeId) (hg : w.heap[g]? = some (.cells cur.toArray t (0, 0))) (cs : List Value) (hn : cs.length = Nat.min sLen dLen)
    (hpos : 0 < cs.length → dp = some ⟨g, off, none⟩ ∧ ∃ ad, sp = some ad ∧ ∀ j v, cs[j]? = some v → w.cell? (ad.add j) = some v)
    (hfit : off + cs.length ≤ cur.length) (h1 : ∀ v ∈ cs, v.oneCell' = true) :
    ∃ w', (Builtin.copy_ #[dT, sT] ty #[.slice dp dLen dCap, .slice sp sLen sCap]).run P w = .ok (goInt cs.length) w' ∧ w'.heap[g]? = some (.cells (splice cur off cs).toArray t (0, 0)) ∧ w.grownBy w' (some g) := by
  by_cases h0 : cs.length = 0
  · obtain rfl : cs = [] := List.eq_nil_of_length_eq_zero h0
    have hrun := run_copy_none (P := P) w dT sT ty elem dp sp dLen dCap sLen sCap hu hsz (by simpa using hn.symm)
    exact ⟨w, by simpa using hrun, by simpa [splice] using hg, grown_refl _ _⟩
  · obtain ⟨rfl, ad, rfl, hsrc⟩ := hpos (by omega)
    have hrun := run_copy_row (P := P) w dT sT ty elem g off dLen dCap ad sLen sCap cur.toArray t cs hu hsz hg hn hsrc (by simpa using hfit) h1
    exact ⟨_, hrun, by simpa [splice] using setRow_heap w g _ _ t _ hg, grown_setRow _ _ _⟩

theorem wpList_copy_grown {P : Program} {w : World} {ops : Array Oper} {rest : List Oper} {o : Oper} {a : Act} {Q : Exit → Act → World → Prop} (hgd : o.guard = none) (d s : Operand) (dT sT : TypeId)
    (ho : o.op = .call { callee := .builtin .copy, args := #[d, s], argTypes := #[dT, sT] }) (elem : TypeId) (hu : P.underlying dT = some (.slice elem)) (hsz : (P.info? elem).map (·.size) = some 1)
    (dp sp : Option Addr) (dLen dCap sLen sCap : Nat) (hd : a.eval d = .slice dp dLen dCap) (hs : a.eval s = .slice sp sLen sCap)
    (g off : Nat) (cur : List Value) (t : TypeId) (hg : w.heap[g]? = some (.cells cur.toArray t (0, 0))) (cs : List Value) (hn : cs.length = Nat.min sLen dLen)
    (hpos : 0 < cs.length → dp = some ⟨g, off, none⟩ ∧ ∃ ad, sp = some ad ∧ ∀ j v, cs[j]? = some v → w.cell? (ad.add j) = some v)
    (hfit : off + cs.length ≤ cur.length) (h1 : ∀ v ∈ cs, v.oneCell' = true)
    (h : ∀ w', Hid (w'.heap[g]? = some (.cells (splice cur off cs).toArray t (0, 0))) → w.grownBy w' (some g) → wpList P ops Q rest (a.put o.dst (goInt cs.length)) w') :
    wpList P ops Q (o :: rest) a w := by
  refine wpList_plain hgd fun K hK => ?_
  obtain ⟨w', hrun, h2, h3⟩ := run_copy_grown (P := P) dT sT o.type elem hu hsz dp sp dLen dCap sLen sCap g off cur t hg cs hn hpos hfit h1
  unfold Oper.wp
  simp [execOp, ho, resolve, invoke, builtin, hd, hs, hrun, Result.andThen]
  exact hK _ _ (h w' h2 h3)

theorem step_copy_grown {P : Program} {ops : Array Oper} {o : Oper} {a : Act} {w : World} {K : Act → World → Prop} {Q : Exit → Act → World → Prop} {E : Prop} (hgd : o.guard = none) (d s : Operand) (dT sT : TypeId)
    (ho : o.op = .call { callee := .builtin .copy, args := #[d, s], argTypes := #[dT, sT] }) (elem : TypeId) (hu : P.underlying dT = some (.slice elem)) (hsz : (P.info? elem).map (·.size) = some 1)
    (dp sp : Option Addr) (dLen dCap sLen sCap : Nat) (hd : a.eval d = .slice dp dLen dCap) (hs : a.eval s = .slice sp sLen sCap)
    (g off : Nat) (cur : List Value) (t : TypeId) (hg : w.heap[g]? = some (.cells cur.toArray t (0, 0))) (cs : List Value) (hn : cs.length = Nat.min sLen dLen)
    (hpos : 0 < cs.length → dp = some ⟨g, off, none⟩ ∧ ∃ ad, sp = some ad ∧ ∀ j v, cs[j]? = some v → w.cell? (ad.add j) = some v)
    (hfit : off + cs.length ≤ cur.length) (h1 : ∀ v ∈ cs, v.oneCell' = true)
    (h : ∀ w', Hid (w'.heap[g]? = some (.cells (splice cur off cs).toArray t (0, 0))) → w.grownBy w' (some g) → K (a.put o.dst (goInt cs.length)) w') :
    if Region.wanted o (yielded ops a.tmps) = true then Oper.wp P o a w K Q else E := by
  have hw : Region.wanted o (yielded ops a.tmps) = true := by simp [Region.wanted, hgd]
  rw [if_pos hw]
  obtain ⟨w', hrun, h2, h3⟩ := run_copy_grown (P := P) dT sT o.type elem hu hsz dp sp dLen dCap sLen sCap g off cur t hg cs hn hpos hfit h1
  unfold Oper.wp
  simp [execOp, ho, resolve, invoke, builtin, hd, hs, hrun, Result.andThen]
  exact h w' h2 h3

theorem splice_map (a : List Bool) (k : Nat) (b : List Bool) : splice (a.map bV) k (b.map bV) = (splice a k b).map bV := by
  unfold splice; simp [List.map_take, List.map_drop]
theorem bool_size : (Try.prog.info? 4).map (·.size) = some 1 := by kernel_rfl
theorem oneB (l : List Bool) : ∀ v, v ∈ l.map bV → v.oneCell' = true := by
  intro v hv
  obtain ⟨y, _, rfl⟩ := List.mem_map.1 hv
  rfl

set_option maxRecDepth 100000 in
set_option maxHeartbeats 8000000 in
theorem clock_any (w : World) (mk gb g : Nat) (S : GrS) (G : GrD) (vals : List Bool) (h : MkAt w mk gb g S G vals) (hlen : vals.length < big) (hmg : mk ≠ g) (hbg : gb ≠ g) (ni : Nat) (hni : G.ins = (ni : Int)) (hvl : 1 + ni + G.lats.length ≤ vals.length) (HLA : Hid (RowAt w.heap.size w S.a1 2 (G.lats.map LatD.cells))) (hin : LatsIn G vals.length) (hol : G.lats.length ≤ 6000) :
    Calls Try.prog 19 #[.pointer (some ⟨mk, 0, none⟩)] w fun e w' => (∃ v, e = .returned v) ∧ w'.heap[g]? = some (.cells ((splice vals (1 + ni) (nextN G vals)).map bV).toArray 4 (0, 0)) ∧ w.grownBy w' (some g) := by
  obtain ⟨ib, hib, hzb, hsb, hbb⟩ := info_bool
  have HI := hidden hib
  have HZ := hidden hzb
  have HS := hidden hsb
  have HBY := hidden hbb
  clear hib hzb hsb hbb
  have HM := hidden h
  have HLEN := hidden hlen
  have HIN := hidden hin
  unfold LatsIn at HIN
  have m0 := h.m0
  have mlt := h.mlt
  have blt := h.box.lt
  have q1 := h.box.c1
  have HNI := hidden hni
  simp only [big] at hlen
  clear h hin hni
  obtain ⟨sa1, sc1, sa2, sc2, sa3, sc3⟩ := S
  dsimp only at *
  have hmkb : ib.bytes * G.lats.length ≤ 281474976710656 := by rw [HBY.out]; omega
  have hmx : G.lats.length ≤ maxLen := by simp only [maxLen]; omega
  have tok : True := trivial
  go_enter Try.func19, Try.ntmps19
  go_wp2_with (have _t := tok; at_make; (refine wpList_make_full _ rfl (.tmp 11) (.tmp 11) 31 rfl w.heap.size 4 ib _ 1 Try.underlying31 HI.out HZ.out HS.out .i64 .i64 (G.lats.length : Int) (G.lats.length : Int) G.lats.length rfl rfl rfl rfl hmkb hmx (Nat.le_refl _) ?_; intro w1 hown1 hgrow1; have HB1 := hidden (none_below hgrow1); have HOM := hidden hown1; have m0' := (HB1.out.cell (p := ⟨mk, 0, none⟩) mlt).trans m0; have q1' := (HB1.out.cell (p := ⟨gb, 1, none⟩) blt).trans q1; clear tok hown1 hgrow1))
  have HO0 : Hid (w1.ownsRow w.heap.size 4 1 (.slice (some ⟨w.heap.size, 0, none⟩) G.lats.length G.lats.length) G.lats.length ((List.replicate G.lats.length false).map bV)) := by
    have := HOM.out
    rw [made_false] at this
    exact this
  clear HOM
  go_loopw [21] (fun i' w' => ∃ (k : Nat), k ≤ G.lats.length ∧ i' = .int .i64 k ∧ Hid (w'.ownsRow w.heap.size 4 1 (.slice (some ⟨w.heap.size, 0, none⟩) G.lats.length G.lats.length) G.lats.length ((((G.lats.take k).map (fun d => litV vals d.next)) ++ (List.replicate G.lats.length false).drop k).map bV)) ∧ Hid (w1.grownBy w' (some w.heap.size))) (fun i' _ => G.lats.length - (intOf i').toNat)
  case atStart => exact ⟨0, Nat.zero_le _, rfl, by show World.ownsRow _ _ _ _ _ _ _; simpa using HO0.out, grown_refl _ _⟩
  case round =>
    obtain ⟨k, hk, rfl, HO, HG⟩ := hrel
    have HBW : Hid (Below w.heap.size w wr) := HB1.out.trans (below_grown HG.out HB1.out.size (fun k hk => by cases hk; exact Nat.le_refl _))
    have m0R := (HBW.out.cell (p := ⟨mk, 0, none⟩) mlt).trans m0
    by_cases hlt : k < G.lats.length
    · obtain ⟨z, hz⟩ := getElem_lt hlt
      obtain ⟨ob, oo, ea, hob, hoc⟩ := HLA.out.el hz
      have co : wr.cell? ⟨ob, oo + k * 2, none⟩ = some (.int .i64 z.next) := (HBW.out.cell (p := ⟨ob, oo + k * 2, none⟩) hob).trans (hoc 0 _ rfl)
      have q1R := (HBW.out.cell (p := ⟨gb, 1, none⟩) blt).trans q1
      have WT : Hid (∀ w', w' = wr → Calls Try.prog 23 #[.pointer (some ⟨mk, 0, none⟩), .int .i64 z.next] w' fun e w'' => e = .returned (.bool (litV vals z.next)) ∧ w'' = w') := fun w' hw' => by subst hw'; exact worth_any _ mk gb g _ G vals (HM.out.to HBW.out) HLEN.out z.next (HIN.out k z hz)
      have hcl := HO.out.cellAt k (by omega)
      have hfz := HO.out.frozenAt k
      have hold : ∃ old, wr.cell? ⟨w.heap.size, k, none⟩ = some old := by
        rw [hcl]
        have hL : k < ((((G.lats.take k).map (fun d => litV vals d.next)) ++ (List.replicate G.lats.length false).drop k).map bV).length := by simp; omega
        exact ⟨_, List.getElem?_eq_getElem hL⟩
      obtain ⟨old, hold⟩ := hold
      have HST := hidden (HO.out.stored k (.bool (litV vals z.next)))
      have HNX : Hid (((((G.lats.take k).map (fun d => litV vals d.next)) ++ (List.replicate G.lats.length false).drop k).map bV).set k (.bool (litV vals z.next)) = ((((G.lats.take (k + 1)).map (fun d => litV vals d.next)) ++ (List.replicate G.lats.length false).drop (k + 1)).map bV)) := by
        show _ = _
        have e : ((G.lats.take k ++ [z]).map (fun d => litV vals d.next)) = ((G.lats.take k).map (fun d => litV vals d.next)) ++ [litV vals z.next] := by rw [List.map_append]; simp
        rw [take_next _ k _ hz, e]
        exact set_next _ _ k _ (by simp; omega) (by simpa using hlt)
      generalize litV vals z.next = y at *
      generalize z.next = zn at *
      subst ea
      have hltI : (k : Int) < (G.lats.length : Int) := by omega
      have e3 : IntKind.i64.wrap ((k : Int) + 1) = (k : Int) + 1 := wrapI _ (by omega) (by omega)
      clear hoc hz hcl HO
      go_wp2_with fail
      go_at_call 23
      refine (WT.out _ rfl).mono ?_
      rintro e w2 ⟨rfl, hw2⟩
      subst hw2
      clear WT
      go_wp2
      go_roundw
      case measure => simp [intOf]; omega
      case rel => exact ⟨k + 1, by omega, by simp, by show World.ownsRow _ _ _ _ _ _ _; rw [← HNX.out]; exact HST.out.1, grown_trans HG.out HST.out.2⟩
    · have hge : ¬ ((k : Int) < (G.lats.length : Int)) := by omega
      obtain ⟨nx, HNXT⟩ : ∃ nx, Hid (nextN G vals = nx) := ⟨_, rfl⟩
      have hnl : nx.length = G.lats.length := by rw [← HNXT.out]; unfold nextN; simp
      have HO6 : Hid (wr.ownsRow w.heap.size 4 1 (.slice (some ⟨w.heap.size, 0, none⟩) G.lats.length G.lats.length) G.lats.length (nx.map bV)) := by
        have := HO.out
        rw [List.take_of_length_le (by omega), List.drop_eq_nil_of_le (by simp; omega), List.append_nil] at this
        rw [← HNXT.out]
        exact this
      clear HO
      have HMR := hidden (HM.out.to HBW.out)
      have m1R := HMR.out.m1
      have q0R := HMR.out.box.c0
      rw [HNI.out] at q0R
      have mltR := HMR.out.mlt
      have bltR := HMR.out.box.lt
      have hwlt : w.heap.size < wr.heap.size := (HO6.out.lt w.heap.size rfl).2
      have HWG : Hid (w.grownBy wr (some g)) := ⟨HBW.out.os, HBW.out.tape, HBW.out.output, HBW.out.size, fun k hk _ => HBW.out.block k hk⟩
      have HCE : Hid (∀ (j : Nat) (v : Value), (nx.map bV)[j]? = some v → wr.cell? ((⟨w.heap.size, 0, none⟩ : Addr).add j) = some v) := fun j v hv => HO6.out.cells (g := w.heap.size) rfl j v hv
      have HRW := hidden HMR.out.row
      have hni1 : (1 + ni : Int) ≤ (vals.length : Int) := by omega
      have e5 : IntKind.i64.wrap (1 + (ni : Int)) = 1 + (ni : Int) := wrapI _ (by omega) (by omega)
      have HFIT : Hid (1 + ni + (nx.map bV).length ≤ (vals.map bV).length) := by show _ ≤ _; simp; omega
      go_upto_region 6 with fail
      have hcs : 1 + ni = vals.length ∨ 1 + ni < vals.length := by omega
      rcases hcs with hcs | hcs
      · have hz0 : G.lats.length = 0 := by omega
        have HNM : Hid ((nx.map bV).length = Nat.min G.lats.length 0) := by
          show _ = _
          rw [List.length_map, hnl, hz0]; rfl
        have HPOS : ∀ dp : Option Addr, Hid (0 < (nx.map bV).length → dp = some ⟨g, 1 + ni, none⟩ ∧ ∃ ad : Addr, some (⟨w.heap.size, 0, none⟩ : Addr) = some ad ∧ ∀ (j : Nat) (v : Value), (nx.map bV)[j]? = some v → wr.drew.cell? (ad.add j) = some v) := by
          intro dp hp; exfalso; simp at hp; omega
        rw [← hcs] at m1R
        have HCS := hidden hcs
        have HZ0 := hidden hz0
        clear hcs hz0 hvl hni1 hlen hnl hge
        have KP : Hid (∀ w', wr.grownBy w' (some g) → wr.grownBy w' (some g) ∧ w'.cell? ⟨mk, 0, none⟩ = some (.pointer (some ⟨gb, 0, none⟩)) ∧ w'.cell? ⟨mk, 1, none⟩ = some (.slice (some ⟨g, 0, none⟩) (1 + ni) (1 + ni)) ∧ w'.cell? ⟨gb, 0, none⟩ = some (.int .i64 (ni : Int))) := fun w' hw' => ⟨hw', hw'.cell m0R (by intro e; cases e; exact hmg rfl), hw'.cell m1R (by intro e; cases e; exact hmg rfl), hw'.cell q0R (by intro e; cases e; exact hbg rfl)⟩
        go_region_held_law (fun w' => wr.grownBy w' (some g) ∧ w'.cell? ⟨mk, 0, none⟩ = some (.pointer (some ⟨gb, 0, none⟩)) ∧ w'.cell? ⟨mk, 1, none⟩ = some (.slice (some ⟨g, 0, none⟩) (1 + ni) (1 + ni)) ∧ w'.cell? ⟨gb, 0, none⟩ = some (.int .i64 (ni : Int)))
          (first | assumption | exact KP.out _ (grown_refl _ _) | exact KP.out _ (grown_drew _ _) | exact KP.out _ (by assumption) | exact KP.out _ (grown_of_drew (by assumption)))
          ((refine step_copy_grown rfl (.tmp 53) (.tmp 54) 31 31 rfl 4 Try.underlying31 bool_size _ _ _ _ _ _ rfl rfl g (1 + ni) (vals.map bV) 4 HRW.out (nx.map bV) HNM.out (HPOS _).out HFIT.out (oneB nx) ?_; intro w4 hg4 hr4; have HG4 := hidden (grown_of_drew hr4)))
        all_goals
          have HSP : Hid (w4.heap[g]? = some (.cells ((splice vals (1 + ni) nx).map bV).toArray 4 (0, 0))) := by
            have := hg4.out
            rw [splice_map] at this
            exact this
          have HGW : Hid (w.grownBy w4 (some g)) := grown_trans HWG.out HG4.out
          clear hr4 hg4
          go_wp2_with fail
          go_end0
          exact ⟨⟨_, rfl⟩, by rw [HNXT.out]; exact HSP.out, HGW.out⟩
      · have hcI : ¬ (1 + (ni : Int)) = (vals.length : Int) := by omega
        have hcN : ¬ 1 + ni = vals.length := by omega
        have HNM : Hid ((nx.map bV).length = Nat.min G.lats.length (vals.length - (1 + ni))) := by
          show _ = _
          rw [show Nat.min G.lats.length (vals.length - (1 + ni)) = G.lats.length from Nat.min_eq_left (by omega)]; simpa using hnl
        have HPOS : Hid (∀ dp : Option Addr, dp = some ⟨g, 1 + ni, none⟩ → 0 < (nx.map bV).length → dp = some ⟨g, 1 + ni, none⟩ ∧ ∃ ad : Addr, some (⟨w.heap.size, 0, none⟩ : Addr) = some ad ∧ ∀ (j : Nat) (v : Value), (nx.map bV)[j]? = some v → wr.drew.cell? (ad.add j) = some v) := fun _ hdp _ => ⟨hdp, _, rfl, fun j v hv => HCE.out j v hv⟩
        have KP : Hid (∀ w', wr.grownBy w' (some g) → wr.grownBy w' (some g) ∧ w'.cell? ⟨mk, 0, none⟩ = some (.pointer (some ⟨gb, 0, none⟩)) ∧ w'.cell? ⟨mk, 1, none⟩ = some (.slice (some ⟨g, 0, none⟩) vals.length vals.length) ∧ w'.cell? ⟨gb, 0, none⟩ = some (.int .i64 (ni : Int))) := fun w' hw' => ⟨hw', hw'.cell m0R (by intro e; cases e; exact hmg rfl), hw'.cell m1R (by intro e; cases e; exact hmg rfl), hw'.cell q0R (by intro e; cases e; exact hbg rfl)⟩
        go_region_held_law (fun w' => wr.grownBy w' (some g) ∧ w'.cell? ⟨mk, 0, none⟩ = some (.pointer (some ⟨gb, 0, none⟩)) ∧ w'.cell? ⟨mk, 1, none⟩ = some (.slice (some ⟨g, 0, none⟩) vals.length vals.length) ∧ w'.cell? ⟨gb, 0, none⟩ = some (.int .i64 (ni : Int)))
          (first | assumption | exact KP.out _ (grown_refl _ _) | exact KP.out _ (grown_drew _ _) | exact KP.out _ (by assumption) | exact KP.out _ (grown_of_drew (by assumption)))
          ((refine step_copy_grown rfl (.tmp 53) (.tmp 54) 31 31 rfl 4 Try.underlying31 bool_size _ _ _ _ _ _ rfl rfl g (1 + ni) (vals.map bV) 4 HRW.out (nx.map bV) HNM.out (HPOS.out _ rfl) HFIT.out (oneB nx) ?_; intro w4 hg4 hr4; have HG4 := hidden (grown_of_drew hr4)))
        all_goals
          have HSP : Hid (w4.heap[g]? = some (.cells ((splice vals (1 + ni) nx).map bV).toArray 4 (0, 0))) := by
            have := hg4.out
            rw [splice_map] at this
            exact this
          have HGW : Hid (w.grownBy w4 (some g)) := grown_trans HWG.out HG4.out
          clear hr4 hg4
          go_wp2_with fail
          go_end0
          exact ⟨⟨_, rfl⟩, by rw [HNXT.out]; exact HSP.out, HGW.out⟩

end Go.Proofs.Ytlgihgidpngifaa
