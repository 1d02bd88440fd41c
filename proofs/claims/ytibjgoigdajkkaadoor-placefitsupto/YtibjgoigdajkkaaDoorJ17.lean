import Derived.Test.YtibjgoigdajkkaaDoorJ16
namespace Go.Proofs.YtibjgoigdajkkaaDoor
open Go.RowKit

theorem full_blk {w : World} {B g n sz : Nat} {e : TypeId} {xs : List Value} (h : w.ownsRow B e sz (.slice (some ⟨g, 0, none⟩) n n) n xs) : Blk w g e xs.toArray := by
  rcases h.2 with ⟨h', _⟩ | ⟨g', cap', cur, h', _, hh, _, _, hcs, htake⟩
  · simp at h'
  · simp only [Value.slice.injEq, Option.some.injEq, Addr.mk.injEq, and_true, true_and] at h'
    obtain ⟨rfl, rfl⟩ := h'
    show _ = _
    rw [hh]
    rw [List.take_of_length_le (by rw [Array.length_toList, hcs]; exact Nat.le_refl _)] at htake
    rw [← htake]
theorem made_i32 (n : Nat) : (madeCells (Value.int .i32 0).cells (n * 1)).toList = tabL n fun _ => Value.int .i32 0 := by
  rw [Nat.mul_one]
  apply List.ext_getElem?
  intro i
  by_cases h : i < n
  · rw [tabL_get h]; simp [madeCells, Value.cells, h, Nat.mod_one]
  · rw [List.getElem?_eq_none (by simp [madeCells]; omega), List.getElem?_eq_none (by rw [tabL_len]; omega)]
theorem info_i320 : (Tryd.prog.info? 21).map (fun i => (i.zero, i.size, i.bytes)) = some (some (.int .i32 0), 1, 4) := by kernel_rfl
theorem info_i32 : ∃ i, Tryd.prog.info? 21 = some i ∧ i.zero = some (.int .i32 0) ∧ i.size = 1 ∧ i.bytes = 4 := by
  have h := info_i320
  cases hi : Tryd.prog.info? 21 with
  | none => rw [hi] at h; simp at h
  | some i => rw [hi] at h; simp at h; exact ⟨i, rfl, h.1, h.2.1, h.2.2⟩
theorem But.new {g i : Nat} {a b c : World} (h : But i a b) (hg : a.heap.size ≤ g) (k : But g b c) : But i a c :=
  ⟨k.os.trans h.os, k.tape.trans h.tape, k.output.trans h.output, Nat.le_trans h.size k.size, fun j hj hne => (k.block j (Nat.lt_of_lt_of_le hj h.size) (by omega)).trans (h.block j hj hne)⟩
def itV (D : PnS) (col : Nat → Int) (tv : Nat → Value) (m : Nat) : Value :=
  match m % 5 with
  | 0 => .int .i64 (D.sig (m / 5))
  | 1 => .slice (D.a (m / 5)) (D.ins (m / 5)).length (D.c (m / 5))
  | 2 => .bool (D.isEnd (m / 5))
  | 3 => .int .i64 (col (m / 5))
  | _ => tv (m / 5)
def tbV (D : PnS) (tb : Nat → Nat) (i : Nat) : Value := .slice (some ⟨tb i, 0, none⟩) (D.cc + 1) (D.cc + 1)
theorem itV_two (D : PnS) (col : Nat → Int) (tv : Nat → Value) (i : Nat) : itV D col tv (i * 5 + 2) = .bool (D.isEnd i) := by
  unfold itV; rw [show (i * 5 + 2) % 5 = 2 by omega, show (i * 5 + 2) / 5 = i by omega]; rfl
theorem itV_tk (D : PnS) (col : Nat → Int) (tv : Nat → Value) (i : Nat) (v : Value) : upd (itV D col tv) (i * 5 + 4) v = itV D col (upd tv i v) := by
  funext m
  by_cases e : m = i * 5 + 4
  · subst e
    rw [upd_same]
    unfold itV
    rw [show (i * 5 + 4) % 5 = 4 by omega, show (i * 5 + 4) / 5 = i by omega]
    show _ = upd tv i v i
    rw [upd_same]
  · rw [upd_ne e]
    unfold itV
    have : m % 5 = 0 ∨ m % 5 = 1 ∨ m % 5 = 2 ∨ m % 5 = 3 ∨ m % 5 = 4 := by omega
    rcases this with e2 | e2 | e2 | e2 | e2
    · rw [e2]; rfl
    · rw [e2]; rfl
    · rw [e2]; rfl
    · rw [e2]; rfl
    · rw [e2]
      show tv (m / 5) = upd tv i v (m / 5)
      rw [upd_ne (by omega)]
/-- a plan, with whatever stands for the takers -/
structure PlTk (D : PnS) (w : World) (col ld : Nat → Int) (tv : Nat → Value) : Prop where
  bs : PlBase D w
  it : 0 < D.n → Blk w D.ib 89 (tabL (D.n * 5) (itV D col tv) ++ D.spare).toArray
  ld : Blk w D.lb 3 (tabL D.cc fun c => .int .i64 (ld c)).toArray
theorem PlAt.tkp {D : PnS} {T : PnT} {w : World} (h : PlAt D w T) : PlTk D w T.col T.ld (tbV D T.tb) := ⟨h.bs, h.it, h.ld⟩
theorem PlTk.below {D : PnS} {w w' : World} {col ld : Nat → Int} {tv : Nat → Value} (h : PlTk D w col ld tv) (hb : Below w.heap.size w w') : PlTk D w' col ld tv :=
  ⟨h.bs.kp hb.size (fun k hk _ _ => hb.block k (Nat.lt_of_lt_of_le hk h.bs.sz)), fun h0 => (h.it h0).below hb, h.ld.below hb⟩
theorem PlTk.far {D : PnS} {w : World} {col ld : Nat → Int} {tv : Nat → Value} (h : PlTk D w col ld tv) {g c : Nat} (v : Value) (hg : D.C ≤ g) : PlTk D (w.setCell ⟨g, c, none⟩ v) col ld tv := by
  have hb := But.set g c w v
  have hl := h.bs.lt
  exact ⟨h.bs.kp hb.size (fun k hk _ _ => hb.block k (Nat.lt_of_lt_of_le hk h.bs.sz) (by omega)), fun h0 => hb.blk (h.it h0) (by omega), hb.blk h.ld (by omega)⟩
theorem PlTk.set {D : PnS} {w : World} {col ld : Nat → Int} {tv : Nat → Value} (h : PlTk D w col ld tv) {i : Nat} (hi : i < D.n) (v : Value) : PlTk D (w.setCell ⟨D.ib, i * 5 + 4, none⟩ v) col ld (upd tv i v) := by
  have hb := But.set D.ib (i * 5 + 4) w v
  have hne := h.bs.ne
  refine ⟨h.bs.kp hb.size (fun k hk h1 _ => hb.block k (Nat.lt_of_lt_of_le hk h.bs.sz) h1), fun h0 => ?_, hb.blk h.ld (fun e => hne.2.2 e.symm)⟩
  have := (h.it h0).set (i * 5 + 4) v
  rw [tabA_set (by omega), itV_tk] at this
  exact this
/-- of the ends alone -/
def endK (D : PnS) (i c : Nat) : Nat := if c = D.cc ∧ D.isEnd i = true then 1 else 0
/-- the takers of the first k items are there -/
structure TkS (D : PnS) (w : World) (k : Nat) (tb : Nat → Nat) : Prop where
  tk : ∀ i, i < k → D.C ≤ tb i ∧ Blk w (tb i) 21 (tabL (D.cc + 1) fun c => .int .i32 (endK D i c : Nat)).toArray
  dj : ∀ i j, i < k → j < k → tb i = tb j → i = j
theorem upd_lt {α : Type} {f g : Nat → α} {k : Nat} {v : α} : upd (fun i => if i < k then f i else g i) k v = fun i => if i < k + 1 then upd f k v i else g i := by
  funext i
  unfold upd
  by_cases e : i = k
  · subst e; rw [if_pos rfl, if_pos (by omega), if_pos rfl]
  · rw [if_neg e]
    show (if i < k then f i else g i) = _
    by_cases h : i < k
    · rw [if_pos h, if_pos (by omega), if_neg e]
    · rw [if_neg h, if_neg (by omega)]
theorem upd_tbV (D : PnS) (tb : Nat → Nat) (k g : Nat) : upd (tbV D tb) k (.slice (some ⟨g, 0, none⟩) (D.cc + 1) (D.cc + 1)) = tbV D (upd tb k g) := by
  funext i; unfold upd tbV; by_cases e : i = k <;> simp [e]
theorem tk_next {D : PnS} {w wr w2 : World} {col ld : Nat → Int} {tv : Nat → Value} {k g : Nat} {tb : Nat → Nat} (hk : k < D.n) (HP : PlTk D w2 col ld (fun i => if i < k then tbV D tb i else tv i)) (HT : TkS D wr k tb) (hg : g = wr.heap.size) (hC : D.C ≤ g) (hw : w.heap.size ≤ g) (HO : ∀ i, i < k → w.heap.size ≤ tb i) (h2 : ∀ j, j < wr.heap.size → w2.heap[j]? = wr.heap[j]?) (HG : Blk w2 g 21 (tabL (D.cc + 1) fun c => .int .i32 (endK D k c : Nat)).toArray) (HB : But D.ib w w2) :
    PlTk D (w2.setCell ⟨D.ib, k * 5 + 4, none⟩ (.slice (some ⟨g, 0, none⟩) (D.cc + 1) (D.cc + 1))) col ld (fun i => if i < k + 1 then tbV D (upd tb k g) i else tv i) ∧ TkS D (w2.setCell ⟨D.ib, k * 5 + 4, none⟩ (.slice (some ⟨g, 0, none⟩) (D.cc + 1) (D.cc + 1))) (k + 1) (upd tb k g) ∧ (∀ i, i < k + 1 → w.heap.size ≤ upd tb k g i) ∧ But D.ib w (w2.setCell ⟨D.ib, k * 5 + 4, none⟩ (.slice (some ⟨g, 0, none⟩) (D.cc + 1) (D.cc + 1))) := by
  have hb := But.set D.ib (k * 5 + 4) w2 (.slice (some ⟨g, 0, none⟩) (D.cc + 1) (D.cc + 1))
  have hl := HP.bs.lt
  refine ⟨?_, ⟨fun i hi => ?_, fun i j hi hj e => ?_⟩, fun i hi => ?_, HB.trans hb⟩
  · have := HP.set hk (.slice (some ⟨g, 0, none⟩) (D.cc + 1) (D.cc + 1))
    rw [upd_lt, upd_tbV] at this
    exact this
  · unfold upd
    by_cases e : i = k
    · rw [if_pos e, e]
      exact ⟨hC, hb.blk HG (by omega)⟩
    · rw [if_neg e]
      obtain ⟨h1, h3⟩ := HT.tk i (by omega)
      exact ⟨h1, hb.blk ((h2 _ h3.lt).trans h3) (by omega)⟩
  · have hlt : ∀ i, i < k → tb i < g := fun i hi => by rw [hg]; exact (HT.tk i hi).2.lt
    unfold upd at e
    by_cases e1 : i = k
    · by_cases e2 : j = k
      · omega
      · rw [if_pos e1, if_neg e2] at e
        have := hlt j (by omega); omega
    · by_cases e2 : j = k
      · rw [if_neg e1, if_pos e2] at e
        have := hlt i (by omega); omega
      · rw [if_neg e1, if_neg e2] at e
        exact HT.dj i j (by omega) (by omega) e
  · unfold upd
    split
    · exact hw
    · exact HO i (by omega)
set_option maxRecDepth 100000 in
set_option maxHeartbeats 8000000 in
theorem takeAllOut_any (D : PnS) (w : World) (col ld : Nat → Int) (tv : Nat → Value) (h : PlTk D w col ld tv) :
    Calls Tryd.prog 55 #[.pointer (some ⟨D.pb, 0, none⟩)] w fun e w' => (∃ v, e = .returned v) ∧ (∃ tb, PlTk D w' col ld (tbV D tb) ∧ TkS D w' D.n tb ∧ ∀ i, i < D.n → w.heap.size ≤ tb i) ∧ But D.ib w w' := by
  have hcc := h.bs.cc
  have hns := h.bs.nn
  have hlt := h.bs.lt
  obtain ⟨pb, epb⟩ := exq D.pb
  obtain ⟨ib, eib⟩ := exq D.ib
  obtain ⟨n, en⟩ := exq D.n
  obtain ⟨cc, ecc⟩ := exq D.cc
  obtain ⟨ia, eia⟩ := exq D.ia
  have HIA : Hid (0 < n → ia = some ⟨ib, 0, none⟩) := by rw [en, eia, eib]; exact h.bs.ia
  have HC : Hid (∀ (v : World) (tv : Nat → Value), PlTk D v col ld tv → v.cell? ⟨pb, 6, none⟩ = some (.slice ia n D.icap) ∧ v.cell? ⟨pb, 5, none⟩ = some (.int .i64 (cc : Int)) ∧ ∀ i, i < n → v.cell? ⟨ib, i * 5 + 2, none⟩ = some (.bool (D.isEnd i)) ∧ v.frozen? ⟨ib, i * 5 + 4, none⟩ = false ∧ ∃ old, v.cell? ⟨ib, i * 5 + 4, none⟩ = some old) := fun v tv hv => by
    subst epb eib en ecc eia
    refine ⟨hv.bs.c6, by rw [← hv.bs.cc.1]; exact hv.bs.c5, fun i hi => ⟨?_, (hv.it (by omega)).frozen _, _, (hv.it (by omega)).cell (tabA_get (by omega))⟩⟩
    rw [← itV_two D col tv i]
    exact (hv.it (by omega)).cell (tabA_get (by omega))
  obtain ⟨ic, hic, hz, hs, hby⟩ := info_i32
  have HI := hidden hic
  have HZ := hidden hz
  have HSI := hidden hs
  have hcc2 : cc ≤ 100 := by omega
  have hmkb : ic.bytes * (cc + 1) ≤ 281474976710656 := by rw [hby]; omega
  have hmx : cc + 1 ≤ maxLen := by simp only [maxLen]; omega
  have e1 : IntKind.i64.wrap ((cc : Int) + 1) = (cc : Int) + 1 := wrapI _ (by omega) (by omega)
  obtain ⟨c6, -, -⟩ := HC.out w tv h
  rw [← epb]
  have HH := hidden h
  have HEI := hidden eib
  have HEN := hidden en
  have HEC := hidden ecc
  have hib : ib < D.C := by omega
  rw [← en] at hns
  clear h epb eib en ecc eia hic hz hs hby hcc
  have tok : True := trivial
  go_enter Tryd.func55, Tryd.ntmps55
  go_wp2_with fail
  clear c6
  go_loopw [9] (fun i' w' => ∃ (k : Nat) (tb : Nat → Nat), k ≤ n ∧ i' = .int .i64 (k : Int) ∧ Hid (PlTk D w' col ld (fun i => if i < k then tbV D tb i else tv i)) ∧ Hid (TkS D w' k tb) ∧ Hid (∀ i, i < k → w.heap.size ≤ tb i) ∧ Hid (But ib w w')) (fun i' _ => n - (intOf i').toNat)
  case atStart => exact ⟨0, fun _ => 0, Nat.zero_le _, rfl, by show PlTk _ _ _ _ _; simp only [Nat.not_lt_zero, if_false]; exact HH.out, ⟨fun i hi => by omega, fun i j hi => by omega⟩, fun i hi => by omega, But.refl _ _⟩
  case round =>
    clear HH
    obtain ⟨k, tb, hk, rfl, HP, HT, HO, HBU⟩ := hrel
    by_cases hlt : k < n
    · have hltI : (k : Int) < (n : Int) := by omega
      have hia := HIA.out (by omega)
      subst hia
      obtain ⟨c6, c5, -⟩ := HC.out wr _ HP.out
      go_upto_region 4 with (have _t := tok; at_make; (refine wpList_make_full _ rfl (.tmp 17) (.tmp 17) 87 rfl wr.heap.size 21 ic _ 1 Tryd.underlying87 HI.out HZ.out HSI.out .i64 .i64 ((cc : Int) + 1) ((cc : Int) + 1) (cc + 1) rfl rfl rfl rfl hmkb hmx (Nat.le_refl _) ?_; intro w1 hown1 hgrow1; have HB1 := hidden (none_below hgrow1); have HOM := hidden (full_blk hown1); clear tok hown1 hgrow1))
      obtain ⟨g, hg⟩ := exq wr.heap.size
      rw [← hg]
      have hCg : D.C ≤ g := by rw [hg]; exact HP.out.bs.sz
      have hwg : w.heap.size ≤ g := by rw [hg]; exact HBU.out.size
      have HP1 : Hid (PlTk D w1 col ld (fun i => if i < k then tbV D tb i else tv i)) := HP.out.below HB1.out
      have HG1 : Hid (Blk w1 g 21 (tabL (cc + 1) fun _ => Value.int .i32 0).toArray) := by
        have := HOM.out
        rw [made_i32, ← hg] at this
        exact this
      have HBU1 : Hid (But ib w w1) := HBU.out.trans (Below.but HB1.out)
      obtain ⟨d6, d5, dI⟩ := HC.out w1 _ HP1.out
      obtain ⟨d2, df, old, dold⟩ := dI k hlt
      have HGE := hidden hg
      have HH2 : Hid (∀ j, j < wr.heap.size → w1.heap[j]? = wr.heap[j]?) := HB1.out.block
      clear hg HP HOM HB1 HBU dI c6 c5
      cases hE : D.isEnd k with
      | true =>
        rw [hE] at d2
        have cg := HG1.out.cell (tab_get (show cc < cc + 1 by omega))
        have cgf := HG1.out.frozen cc
        have hcI : (cc : Int) < (cc : Int) + 1 := by omega
        have HN := hidden (tk_next (w2 := w1.setCell ⟨g, cc, none⟩ (.int .i32 1)) (by rw [← HEN.out]; exact hlt) (HP1.out.far _ hCg) HT.out HGE.out hCg hwg HO.out (fun j hj => ((But.set g cc w1 _).block j (by have := HG1.out.lt; have := HGE.out; omega) (by have := HGE.out; omega)).trans (HH2.out j hj)) (by
          have := HG1.out.set cc (.int .i32 1)
          rw [tab_set] at this
          have e : tabL (cc + 1) (upd (fun _ => Value.int .i32 0) cc (.int .i32 1)) = tabL (D.cc + 1) fun c => Value.int .i32 (endK D k c : Nat) := by
            rw [HEC.out]
            apply tabL_congr
            intro c hc
            unfold upd endK
            by_cases e : c = D.cc
            · rw [if_pos e, if_pos ⟨e, hE⟩]; rfl
            · rw [if_neg e, if_neg (fun h => e h.1)]; rfl
          rw [e] at this
          exact this) (by rw [← HEI.out]; exact HBU1.out.new hwg (But.set g cc w1 _)))
        have HPX := hidden (HP1.out.far (c := cc) (.int .i32 1) hCg)
        rw [← HEI.out, ← HEC.out] at HN
        go_upto_region 6 with fail
        generalize w1.setCell ⟨g, cc, none⟩ (.int .i32 1) = w2 at *
        obtain ⟨f6, f5, fI⟩ := HC.out w2 _ HPX.out
        obtain ⟨f2, ff, old2, fold2⟩ := fI k hlt
        have e2 : IntKind.i64.wrap ((k : Int) + 1) = (k : Int) + 1 := wrapI _ (by omega) (by omega)
        clear d6 d5 d2 df dold cg cgf fI HPX HP1 HG1
        go_wp2
        go_roundw
        case measure => simp [intOf]; omega
        case rel => exact ⟨k + 1, upd tb k g, by omega, by simp, HN.out.1, HN.out.2.1, HN.out.2.2.1, HN.out.2.2.2⟩
      | false =>
        rw [hE] at d2
        have HN := hidden (tk_next (w2 := w1) (by rw [← HEN.out]; exact hlt) HP1.out HT.out HGE.out hCg hwg HO.out HH2.out (by
          have := HG1.out
          have e : tabL (cc + 1) (fun _ => Value.int .i32 0) = tabL (D.cc + 1) fun c => Value.int .i32 (endK D k c : Nat) := by
            rw [HEC.out]
            apply tabL_congr
            intro c hc
            unfold endK
            rw [if_neg (fun h => by rw [hE] at h; cases h.2)]; rfl
          rw [e] at this
          exact this) (by rw [← HEI.out]; exact HBU1.out))
        rw [← HEI.out, ← HEC.out] at HN
        have e2 : IntKind.i64.wrap ((k : Int) + 1) = (k : Int) + 1 := wrapI _ (by omega) (by omega)
        clear HP1 HG1
        go_wp2
        go_roundw
        case measure => simp [intOf]; omega
        case rel => exact ⟨k + 1, upd tb k g, by omega, by simp, HN.out.1, HN.out.2.1, HN.out.2.2.1, HN.out.2.2.2⟩
    · obtain rfl : k = n := by omega
      have hge : ¬ ((k : Int) < (k : Int)) := by omega
      have HFI : Hid (PlTk D wr col ld (tbV D tb)) := by
        have hp := HP.out
        refine ⟨hp.bs, fun h0 => ?_, hp.ld⟩
        have := hp.it h0
        have e : tabL (D.n * 5) (itV D col fun i => if i < k then tbV D tb i else tv i) = tabL (D.n * 5) (itV D col (tbV D tb)) := by
          apply tabL_congr
          intro m hm
          have hm5 : m / 5 < k := by rw [HEN.out]; omega
          unfold itV
          simp only [if_pos hm5]
        rw [e] at this
        exact this
      have HT2 : Hid (TkS D wr D.n tb) := by rw [← HEN.out]; exact HT.out
      have HO2 : Hid (∀ i, i < D.n → w.heap.size ≤ tb i) := by rw [← HEN.out]; exact HO.out
      rw [HEI.out] at HBU
      clear HP HT HO
      go_wp2
      go_end0
      exact ⟨⟨_, rfl⟩, ⟨tb, HFI.out, HT2.out, HO2.out⟩, HBU.out⟩


end Go.Proofs.YtibjgoigdajkkaaDoor
