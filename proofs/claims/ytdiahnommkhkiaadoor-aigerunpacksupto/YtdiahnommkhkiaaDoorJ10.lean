import Derived.Test.YtdiahnommkhkiaaDoorJ09
import Derived.Deep.Cut
namespace Go.Proofs.YtdiahnommkhkiaaDoor
open Go.RowKit

theorem heap_cell {w : World} {k : Nat} {cs : Array Value} {T : TypeId} (h : w.heap[k]? = some (.cells cs T (0, 0))) {o : Nat} : w.cell? ⟨k, o, none⟩ = cs[o]? := by simp [World.cell?, h]
theorem heap_fz {w : World} {k : Nat} {cs : Array Value} {T : TypeId} (h : w.heap[k]? = some (.cells cs T (0, 0))) (o : Nat) : w.frozen? ⟨k, o, none⟩ = false := by simp [World.frozen?, h]
def sC (p : List UInt8) : List Value := [.string (bs p)]
theorem row_of_own {w : World} {C e n g : Nat} {xs : List Value} (h : w.ownsRow C e 1 (.slice (some ⟨g, 0, none⟩) n n) n xs) : w.heap[g]? = some (.cells xs.toArray e (0, 0)) := by
  rcases h.2 with ⟨h', _⟩ | ⟨g', cap', cur, h', _, hh, _, _, hcs, htake⟩
  · simp at h'
  · simp only [Value.slice.injEq, Option.some.injEq, Addr.mk.injEq, and_true, true_and] at h'
    obtain ⟨rfl, rfl⟩ := h'
    rw [hh]
    rw [List.take_of_length_le (by rw [Array.length_toList, hcs]; exact Nat.le_refl _)] at htake
    rw [← htake]
theorem own_of_row {w : World} {C e n g : Nat} {xs : List Value} (h : w.heap[g]? = some (.cells xs.toArray e (0, 0))) (hl : xs.length = n) (hC : C ≤ g) (hm : n ≤ maxLen) : w.ownsRow C e 1 (.slice (some ⟨g, 0, none⟩) n n) n xs :=
  ⟨by omega, .inr ⟨g, n, xs.toArray, rfl, hC, h, Nat.le_refl _, hm, by simp [hl], by simp [List.take_of_length_le, hl]⟩⟩
theorem made_int (n : Nat) : (madeCells (Value.int .i64 0).cells (n * 1)).toList = List.replicate n (.int .i64 0) := by
  rw [Nat.mul_one]
  apply List.ext_getElem?
  intro i
  by_cases h : i < n
  · simp [madeCells, Value.cells, h, Nat.mod_one]
  · simp [madeCells, Value.cells, h]
theorem pcs_le (c : UInt8) (l p : List UInt8) (h : p ∈ pcs c l) : p.length ≤ l.length := by
  have key : ∀ l : List UInt8, (∀ q, q ∈ (sp c l).1 → q.length ≤ l.length) ∧ (sp c l).2.length ≤ l.length := by
    intro l
    induction l using snocInd with
    | nil => simp [sp]
    | snoc l x ih =>
      rw [sp_snoc]
      split
      · refine ⟨fun q hq => ?_, by simp⟩
        rcases List.mem_append.1 hq with h | h
        · have := ih.1 q h; simp; omega
        · rw [List.mem_singleton.1 h]; simp; omega
      · refine ⟨fun q hq => ?_, by simp; omega⟩
        have := ih.1 q hq; simp; omega
  unfold pcs at h
  rcases List.mem_append.1 h with h | h
  · exact (key l).1 p h
  · rw [List.mem_singleton.1 h]; exact (key l).2
/-- the words of a line, up to so many -/
theorem splitN_any (l : List UInt8) (most : Nat) (hl : l.length ≤ 2000000) (hm : most ≤ 100) (w : World) (hv : Vars w) :
    Calls Tryd.prog 69 #[.string (bs l), .string ⟨#[32]⟩, .int .i64 ((most + 1 : Nat) : Int)] w fun e w' => ∃ q c, ∃ ws : List (List UInt8), e = .returned (.slice (some ⟨q, 0, none⟩) ws.length c) ∧ RowAt w'.heap.size w' (some ⟨q, 0, none⟩) 1 (ws.map sC) ∧ ((pcs 32 l).length ≤ most → ws = pcs 32 l) ∧ (most < (pcs 32 l).length → most < ws.length) ∧ ws.length ≤ most + 1 ∧ Below w.heap.size w w' := by
  obtain ⟨m, hmm⟩ := hv.ml
  refine (Tryd.strings_SplitN (bs l) ⟨#[32]⟩ (most + 1) m w (by rw [bs_size]; omega) hmm (by decide) (by omega) (by omega)).mono ?_
  rintro e w' ⟨rfl, rfl⟩
  have e1 : (bs l).data.toList = l := by simp [bs]
  have hsz := bs_size l
  obtain ⟨k, hk⟩ : ∃ k, k = min (most + 1) ((bs l).size + 1) - 1 := ⟨_, rfl⟩
  have hkk : k = min most l.length := by omega
  have hN : min (most + 1) ((bs l).size + 1) = k + 1 := by omega
  rw [hN, Nat.add_sub_cancel]
  have hmap := Lib.splitB_data ⟨#[32]⟩ 0 k (bs l)
  rw [e1] at hmap
  have hB : Lib.splitB ⟨#[32]⟩ 0 k (bs l) = (Lib.splitK [32] 0 k l).map bs := by
    rw [show (Lib.splitK [32] 0 k l) = (Lib.splitB ⟨#[32]⟩ 0 k (bs l)).map (·.data.toList) from hmap.symm, List.map_map]
    conv => lhs; rw [← List.map_id (Lib.splitB ⟨#[32]⟩ 0 k (bs l))]
    apply List.map_congr_left
    intro x _
    show x = bs x.data.toList
    apply ByteArray.ext; simp [bs]
  have hpk := splitK_pcs 32 k l
  have hpl := pcs_len 32 l
  have hle : (Lib.splitK [32] 0 k l).length ≤ k + 1 := by
    have := Lib.splitB_length_le ⟨#[32]⟩ 0 k (bs l)
    rw [hB, List.length_map] at this
    exact this
  refine ⟨w.heap.size, _, Lib.splitK [32] 0 k l, by rw [hB, List.length_map], ?_, ?_, ?_, by omega, (Below.refl _ _).alloc (Nat.le_refl _) _⟩
  · intro _
    refine ⟨w.heap.size, 0, rfl, by simp, fun i cs hi j x hx => ?_⟩
    rw [List.getElem?_map] at hi
    cases hli : (Lib.splitK [32] 0 k l)[i]? with
    | none => rw [hli] at hi; simp at hi
    | some p =>
      rw [hli] at hi
      simp at hi
      subst hi
      have hil := (List.getElem?_eq_some_iff.1 hli).1
      have hj : j = 0 := by
        have := (List.getElem?_eq_some_iff.1 hx).1
        simpa [sC] using this
      subst hj
      simp [sC] at hx
      subst hx
      rw [Nat.zero_add, Nat.mul_one, Nat.add_zero]
      show (w.alloc _).cell? ⟨w.heap.size, i, none⟩ = _
      rw [cell_new rfl, hB]
      unfold Lib.cellsOf
      simp only [List.getElem?_toArray]
      rw [List.getElem?_append_left (by simp; omega)]
      simp [hli]
  · intro h; exact hpk.1 (by omega)
  · intro h
    by_cases h2 : k + 1 < (pcs 32 l).length
    · rw [hpk.2 h2]; omega
    · rw [hpk.1 (by omega)]; omega
/-- the numbers of a line -/
def NumsOk (l : List UInt8) (least most : Nat) : Prop := least ≤ (pcs 32 l).length ∧ (pcs 32 l).length ≤ most ∧ (pcs 32 l).all numOk = true
set_option maxRecDepth 100000 in
set_option maxHeartbeats 8000000 in
theorem numbersOf_any (r : Nat) (R : RdS) (l : List UInt8) (least most : Nat) (w : World) (h : RdAt w r R) (hv : Vars w) (hl : l.length ≤ 1048576) (hm : most ≤ 100) :
    Calls Tryd.prog 55 #[.pointer (some ⟨r, 0, none⟩), .string (bs l), .int .i64 least, .int .i64 most] w fun e w' =>
      (NumsOk l least most ∧ ∃ v, e = .returned v ∧ w'.ownsRow w.heap.size 3 1 v (pcs 32 l).length ((pcs 32 l).map nV) ∧ Below w.heap.size w w') ∨ (¬ NumsOk l least most ∧ Thr w r R.bg e w') := by
  have HR := hidden h
  have SPL := hidden (splitN_any l most (by omega) hm w hv)
  have e1 : IntKind.i64.wrap ((most : Int) + 1) = ((most + 1 : Nat) : Int) := by rw [wrapI _ (by omega) (by omega)]; omega
  obtain ⟨ib, hib, hzb, hsb, hbb⟩ := info_int
  have HI := hidden hib
  have HZ := hidden hzb
  have HS := hidden hsb
  have hbb' := hbb
  clear hib hzb hsb h hv
  generalize hok : NumsOk l least most = OK
  have HOK := hidden hok
  clear hok
  have HLL := hidden hl
  generalize hps : pcs 32 l = ps at *
  have HPS := hidden hps
  have HYES : Hid (least ≤ ps.length ∧ ps.length ≤ most ∧ ps.all numOk = true → OK) := fun hh => by rw [← HOK.out]; unfold NumsOk; rw [HPS.out]; exact hh
  have HNOT : Hid (¬ (least ≤ ps.length ∧ ps.length ≤ most ∧ ps.all numOk = true) → ¬ OK) := fun hh h2 => hh (by rw [← HOK.out] at h2; unfold NumsOk at h2; rw [HPS.out] at h2; exact h2)
  clear hps hl HOK
  go_enter Tryd.func55, Tryd.ntmps55
  go_wp2_with fail
  go_at_call 69
  refine SPL.out.mono ?_
  rintro e w1 ⟨q, c, ws, rfl, hrow, hw1, hw2, hwl, hb1⟩
  have HRW := hidden hrow
  have HW1 := hidden hw1
  have HW2 := hidden hw2
  have HB1 := hidden hb1
  have HR1 := hidden (HR.out.to hb1)
  obtain ⟨b, hbd⟩ : ∃ b, b = (decide (least ≤ ws.length) && decide (ws.length ≤ most)) := ⟨_, rfl⟩
  have HBD := hidden hbd
  have MU := hidden (must_any r R b w1 HR1.out)
  clear hrow hw1 hw2 hb1 SPL HR
  have hbv : (if (least : Int) ≤ (ws.length : Int) then decide ((ws.length : Int) ≤ (most : Int)) else false) = b := by
    rw [hbd]
    by_cases h1 : least ≤ ws.length
    · have h2 : (least : Int) ≤ (ws.length : Int) := by omega
      rw [if_pos h2]
      by_cases h3 : ws.length ≤ most
      · have h4 : (ws.length : Int) ≤ (most : Int) := by omega
        simp [h1, h3, h4]
      · have h4 : ¬ (ws.length : Int) ≤ (most : Int) := by omega
        simp [h1, h3, h4]
    · have h2 : ¬ (least : Int) ≤ (ws.length : Int) := by omega
      rw [if_neg h2]
      simp [h1]
  clear hbd
  by_cases hA : least ≤ ws.length
  · have hAI : (least : Int) ≤ (ws.length : Int) := by omega
    by_cases hC : ws.length ≤ most
    · have hCI : (ws.length : Int) ≤ (most : Int) := by omega
      have hbt : b = true := by rw [HBD.out]; simp [hA, hC]
      subst hbt
      have hwp : ws = ps := by
        rcases Nat.lt_or_ge most ps.length with h' | h'
        · have := HW2.out h'; omega
        · exact HW1.out h'
      subst hwp
      clear hbv HBD HW1 HW2
      have hmx : ws.length ≤ maxLen := by simp only [maxLen]; omega
      have hmkb : ib.bytes * ws.length ≤ 281474976710656 := by rw [hbb']; omega
      go_wp2_with fail
      go_at_call 53
      refine MU.out.mono ?_
      rintro e x1 hcase
      have hee : e = .returned (.tuple #[]) ∧ x1 = w1 := by
        rcases hcase with ⟨-, h1, h2⟩ | ⟨hf, -⟩
        · exact ⟨h1, h2⟩
        · cases hf
      obtain ⟨he1, hx1⟩ := hee
      subst he1
      subst hx1
      clear MU hcase
      have tok : True := trivial
      go_wp2_with (have _t := tok; at_make; (refine wpList_make_full _ rfl (.tmp 30) (.tmp 30) 26 rfl x1.heap.size 3 ib _ 1 Tryd.underlying26 HI.out HZ.out HS.out .i64 .i64 (ws.length : Int) (ws.length : Int) ws.length rfl rfl rfl rfl hmkb hmx (Nat.le_refl _) ?_; intro w3 hown3 hgrow3; clear tok))
      obtain ⟨lq, hlq⟩ : ∃ x, x = x1.heap.size := ⟨_, rfl⟩
      have HQ3 : Hid (w3.heap[lq]? = some (.cells (List.replicate ws.length (.int .i64 0)).toArray 3 (0, 0))) := by
        have := row_of_own hown3
        rw [made_int] at this
        rw [hlq]; exact this
      have HB3 : Hid (Below x1.heap.size x1 w3) := none_below hgrow3
      have hql : x1.heap.size ≤ lq := by omega
      rw [← hlq]
      clear hown3 hgrow3 hlq
      go_loopw [34] (fun i' w' => ∃ (k : Nat), k ≤ ws.length ∧ i' = .int .i64 k ∧ Hid (((ws.take k).all numOk) = true) ∧ Hid (w'.heap[lq]? = some (.cells ((ws.take k).map nV ++ List.replicate (ws.length - k) (Value.int .i64 0)).toArray 3 (0, 0))) ∧ Hid (Below x1.heap.size x1 w')) (fun i' _ => ws.length - (intOf i').toNat)
      case atStart => exact ⟨0, Nat.zero_le _, rfl, rfl, by simpa [Hid] using HQ3.out, HB3.out⟩
      case round =>
        obtain ⟨k, hk, rfl, HAL, HQ, HBr⟩ := hrel
        by_cases hlt : k < ws.length
        · obtain ⟨p, hp⟩ := getElem_lt hlt
          obtain ⟨qb, qo, hqe, hqb, hqc⟩ := HRW.out.el hp
          obtain ⟨rfl, rfl⟩ : q = qb ∧ 0 = qo := by simpa using hqe
          have cp : wr.cell? ⟨q, k, none⟩ = some (.string (bs p)) := (HBr.out.cell (p := ⟨q, k, none⟩) hqb).trans (by have := hqc 0 _ rfl; simpa using this)
          have hpm : p ∈ ws := List.mem_of_getElem? hp
          have hpl : p.length ≤ l.length := by
            rw [← HPS.out] at hpm
            exact pcs_le 32 l p hpm
          have hll := HLL.out
          have NU := hidden (isNumber_any p (by omega))
          have HPM := hidden hpm
          have HNX := hidden (all_next numOk ws k p hp)
          have HTK := hidden (take_next ws k p hp)
          have hltI : (k : Int) < (ws.length : Int) := by omega
          have e5 : IntKind.i64.wrap ((k : Int) + 1) = (k : Int) + 1 := wrapI _ (by omega) (by omega)
          obtain ⟨nb, HNB⟩ : ∃ nb, Hid (numOk p = nb) := ⟨_, rfl⟩
          rw [HNB.out] at NU
          clear hp hqc hqe hpm
          go_wp2_with fail
          go_at_call 70
          refine (NU.out _).mono ?_
          rintro e x2 ⟨rfl, rfl⟩
          have HRr := hidden (HR1.out.to HBr.out)
          have MU := hidden (must_any r R nb x2 HRr.out)
          clear NU
          go_wp2_with fail
          go_at_call 53
          refine MU.out.mono ?_
          rintro e x3 (⟨rfl, rfl, rfl⟩ | ⟨rfl, hth⟩)
          · have hn9 : p.length ≤ 9 ∧ p.all isDig = true := by
              have := HNB.out
              unfold numOk at this
              simp only [Bool.and_eq_true, decide_eq_true_eq] at this
              exact ⟨this.1.1.2, this.2⟩
            have VA := hidden (valueOf_any p hn9.1 hn9.2)
            have HA2 : Hid ((ws.take (k + 1)).all numOk = true) := by show _ = _; rw [HNX.out, HAL.out, HNB.out]; rfl
            obtain ⟨nv, HNV⟩ : ∃ nv, Hid (numV p = nv) := ⟨_, rfl⟩
            rw [HNV.out] at VA
            have hlen1 : ((ws.take k).map nV).length = k := by simp; omega
            have z0 : x3.cell? ⟨lq, k, none⟩ = some (.int .i64 0) := by
              rw [heap_cell HQ.out, List.getElem?_toArray, List.getElem?_append_right (by omega), hlen1, Nat.sub_self, List.getElem?_replicate, if_pos (by omega)]
            have fz : x3.frozen? ⟨lq, k, none⟩ = false := heap_fz HQ.out _
            have HQ2 : Hid ((x3.setCell ⟨lq, k, none⟩ (.int .i64 nv)).heap[lq]? = some (.cells ((ws.take (k + 1)).map nV ++ List.replicate (ws.length - (k + 1)) (Value.int .i64 0)).toArray 3 (0, 0))) := by
              refine (set_self HQ.out).trans ?_
              rw [List.setIfInBounds_toArray, HTK.out, List.map_append]
              have hrep : List.replicate (ws.length - k) (Value.int .i64 0) = .int .i64 0 :: List.replicate (ws.length - (k + 1)) (Value.int .i64 0) := by
                rw [show ws.length - k = (ws.length - (k + 1)) + 1 by omega, List.replicate_succ]
              rw [hrep]
              have := set_mid ((ws.take k).map nV) (.int .i64 0) (.int .i64 nv) (List.replicate (ws.length - (k + 1)) (Value.int .i64 0))
              rw [hlen1] at this
              rw [this, ← HNV.out]
              simp [nV]
            have HB2 : Hid (Below x1.heap.size x1 (x3.setCell ⟨lq, k, none⟩ (.int .i64 nv))) := HBr.out.setCell (p := ⟨lq, k, none⟩) hql _
            clear MU HAL HQ HBr HNX HTK hn9
            go_wp2_with fail
            go_at_call 71
            refine (VA.out _).mono ?_
            rintro e x4 ⟨rfl, rfl⟩
            clear VA
            go_wp2
            go_roundw
            case measure => simp [intOf]; omega
            case rel => exact ⟨k + 1, by omega, by simp, HA2.out, HQ2.out, HB2.out⟩
          · obtain ⟨p0, rfl, hp1, hp2, hp3⟩ := hth
            have H1 := hidden hp1
            have H2 := hidden hp2
            have H3 := hidden hp3
            clear hp1 hp2 hp3 MU HAL HQ
            unfold thrown
            go_wp2
            have hT : Thr w r R.bg (thrown p0) x3 := ⟨p0, rfl, H1.out, by have := HB1.out.size; have := HBr.out.size; have := H2.out; omega, grown_trans (gbel (HB1.out.trans (HBr.out.mono HB1.out.size)) _) H3.out⟩
            have hNo : ¬ (least ≤ ws.length ∧ ws.length ≤ most ∧ ws.all numOk = true) := fun hh => by
              have := List.all_eq_true.1 hh.2.2 p HPM.out
              rw [HNB.out] at this; cases this
            first | exact ⟨rfl, Or.inr ⟨HNOT.out hNo, hT⟩⟩ | exact Or.inr ⟨HNOT.out hNo, hT⟩
        · have hge : ¬ ((k : Int) < (ws.length : Int)) := by omega
          have hkk : k = ws.length := by omega
          have HF : Hid (ws.all numOk = true) := by have := HAL.out; rwa [List.take_of_length_le (by omega)] at this
          have HO : Hid (wr.ownsRow w.heap.size 3 1 (.slice (some ⟨lq, 0, none⟩) ws.length ws.length) ws.length (ws.map nV)) := by
            refine own_of_row ?_ (by simp) (by have := HB1.out.size; omega) (by simp only [maxLen]; omega)
            have := HQ.out
            rw [List.take_of_length_le (by omega), show ws.length - k = 0 by omega] at this
            simpa using this
          have HBF : Hid (Below w.heap.size w wr) := HB1.out.trans (HBr.out.mono HB1.out.size)
          clear HQ HAL HBr hkk
          go_wp2
          go_ret
          exact Or.inl ⟨HYES.out ⟨hA, hC, HF.out⟩, _, rfl, HO.out, HBF.out⟩
    · have hCI : ¬ (ws.length : Int) ≤ (most : Int) := by omega
      have hbf : b = false := by rw [HBD.out]; simp [hC]
      subst hbf
      have HNO : Hid (¬ (least ≤ ps.length ∧ ps.length ≤ most ∧ ps.all numOk = true)) := fun hh => by
        have := HW1.out hh.2.1
        rw [this] at hC; exact hC hh.2.1
      clear hbv HBD HW1 HW2
      go_wp2_with fail
      go_at_call 53
      refine MU.out.mono ?_
      rintro e x1 (⟨hf, -⟩ | ⟨-, p0, rfl, hp1, hp2, hp3⟩)
      · cases hf
      have H1 := hidden hp1
      have H2 := hidden hp2
      have H3 := hidden hp3
      clear hp1 hp2 hp3 MU
      unfold thrown
      go_wp2
      have hT : Thr w r R.bg (thrown p0) x1 := ⟨p0, rfl, H1.out, Nat.le_trans HB1.out.size H2.out, grown_trans (gbel HB1.out _) H3.out⟩
      first | exact ⟨rfl, Or.inr ⟨HNOT.out HNO.out, hT⟩⟩ | exact Or.inr ⟨HNOT.out HNO.out, hT⟩
  · have hAI : ¬ (least : Int) ≤ (ws.length : Int) := by omega
    have hbf : b = false := by rw [HBD.out]; simp [hA]
    subst hbf
    have HNO : Hid (¬ (least ≤ ps.length ∧ ps.length ≤ most ∧ ps.all numOk = true)) := fun hh => by
      have := HW1.out hh.2.1
      rw [this] at hA; exact hA hh.1
    clear hbv HBD HW1 HW2
    go_wp2_with fail
    go_at_call 53
    refine MU.out.mono ?_
    rintro e x1 (⟨hf, -⟩ | ⟨-, p0, rfl, hp1, hp2, hp3⟩)
    · cases hf
    have H1 := hidden hp1
    have H2 := hidden hp2
    have H3 := hidden hp3
    clear hp1 hp2 hp3 MU
    unfold thrown
    go_wp2
    have hT : Thr w r R.bg (thrown p0) x1 := ⟨p0, rfl, H1.out, Nat.le_trans HB1.out.size H2.out, grown_trans (gbel HB1.out _) H3.out⟩
    first | exact ⟨rfl, Or.inr ⟨HNOT.out HNO.out, hT⟩⟩ | exact Or.inr ⟨HNOT.out HNO.out, hT⟩


end Go.Proofs.YtdiahnommkhkiaaDoor
