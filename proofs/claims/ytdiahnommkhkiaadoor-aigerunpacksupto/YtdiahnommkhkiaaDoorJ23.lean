import Derived.Test.YtdiahnommkhkiaaDoorJ22
namespace Go.Proofs.YtdiahnommkhkiaaDoor
open Go.RowKit

/-- a gate's bytes -/
def AndB (T : List UInt8) (n : Nat) (own : Int) (d : AndD) : Prop := ∃ x q y q', sevB T n = some (x, q) ∧ 1 ≤ x ∧ x ≤ own ∧ sevB T q = some (y, q') ∧ y ≤ own - x ∧ d = ⟨own - x, own - x - y⟩
/-- the place behind them -/
def nextA (T : List UInt8) (n : Nat) : Nat := match sevB T n with | some (_, q) => (match sevB T q with | some (_, q') => q' | none => n) | none => n
/-- the place of what is wrong with them -/
def placeA (T : List UInt8) (n : Nat) (own : Int) : Nat := match sevB T n with | some (x, q) => if 1 ≤ x ∧ x ≤ own then q else n | none => n
theorem nextA_of {T : List UInt8} {n q q' : Nat} {x y : Int} (h : sevB T n = some (x, q)) (h2 : sevB T q = some (y, q')) : nextA T n = q' := by unfold nextA; rw [h]; simp only; rw [h2]
theorem placeA_first {T : List UInt8} {n : Nat} {own : Int} (h : ∀ y q, sevB T n = some (y, q) → ¬ (1 ≤ y ∧ y ≤ own)) : placeA T n own = n ∧ ¬ ∃ d, AndB T n own d := by
  refine ⟨?_, ?_⟩
  · unfold placeA
    split
    · rename_i hq; rw [if_neg (h _ _ hq)]
    · rfl
  · rintro ⟨d, x, q, y, q', h1, h2, h3, _⟩
    exact h x q h1 ⟨h2, h3⟩
theorem placeA_second {T : List UInt8} {n q : Nat} {own x : Int} (h0 : sevB T n = some (x, q)) (h1 : 1 ≤ x) (h2 : x ≤ own) (h : ∀ y q', sevB T q = some (y, q') → ¬ (0 ≤ y ∧ y ≤ own - x)) : placeA T n own = q ∧ ¬ ∃ d, AndB T n own d := by
  refine ⟨?_, ?_⟩
  · unfold placeA
    rw [h0]
    simp only
    rw [if_pos ⟨h1, h2⟩]
  · rintro ⟨d, x', q1, y, q', g1, g2, g3, g4, g5, _⟩
    rw [h0] at g1
    cases g1
    exact h y q' g4 ⟨sevB_nonneg g4, g5⟩
set_option maxRecDepth 100000 in
set_option maxHeartbeats 2000000 in
theorem readGate_by (r : Nat) (T : List UInt8) (n i : Nat) (h : Int × Int × Int × Int × Int) (w : World) (x : ByAt w r T n h) (h1 : 0 ≤ h.2.1 ∧ h.2.1 ≤ 60000) (h2 : 0 ≤ h.2.2.1 ∧ h.2.2.1 ≤ 60000) (hi : i ≤ 60000) :
    Calls Tryd.prog 43 #[.pointer (some ⟨r, 0, none⟩), .int .i64 i] w fun e w' =>
      (∃ d, AndB T n (2 * (1 + h.2.1 + h.2.2.1 + i)) d ∧ e = .returned (.agg #[.int .i64 d.x, .int .i64 d.y]) ∧ ByAt w' r T (nextA T n) h ∧ w.grownBy w' (some r)) ∨ ((¬ ∃ d, AndB T n (2 * (1 + h.2.1 + h.2.2.1 + i)) d) ∧ Thr w r (placeA T n (2 * (1 + h.2.1 + h.2.2.1 + i)) : Nat) e w') := by
  have hlt : r < w.heap.size := x.lt
  have HX := hidden x
  clear x
  go_enter Tryd.func43, Tryd.ntmps43
  go_upto_region 1 with fail
  generalize hW : World.alloc w _ = W
  obtain ⟨rb, hrb⟩ : ∃ x, x = w.heap.size := ⟨_, rfl⟩
  have HBW : Hid (Below w.heap.size w W) := by rw [← hW]; exact (Below.refl _ _).alloc (Nat.le_refl _) _
  have HRB : Hid (W.heap[rb]? = some (.cells #[.int .i64 0, .int .i64 0] 48 (0, 0))) := by rw [← hW, hrb]; exact heap_new _ _
  have hrl : rb < W.heap.size := by rw [← hW, hrb]; simp
  have hrr : r ≠ rb := by omega
  have hrw : w.heap.size ≤ rb := by omega
  rw [← hrb]
  clear hW hrb
  have HXW := hidden (HX.out.to HBW.out)
  have GA : Hid (Calls Tryd.prog 60 #[.pointer (some ⟨r, 1, none⟩), .int .i64 i] W fun e w' => e = .returned (.int .i64 (2 * (1 + h.2.1 + h.2.2.1 + i))) ∧ ∃ q, w' = W.drewN q) := by
    obtain ⟨⟨bg, q⟩, _⟩ := HXW.out
    exact gate_any r 1 h i W q.head h1 h2 hi
  have hob : 0 ≤ 2 * (1 + h.2.1 + h.2.2.1 + (i : Int)) ∧ 2 * (1 + h.2.1 + h.2.2.1 + (i : Int)) ≤ 1000000 := by omega
  generalize hown : 2 * (1 + h.2.1 + h.2.2.1 + (i : Int)) = own at *
  have HOWN := hidden hown
  clear hown
  go_wp2_with fail
  go_at_call 60
  refine GA.out.mono ?_
  rintro e V ⟨rfl, q, hq⟩
  have HBV : Hid (Below W.heap.size W V) := by rw [hq]; exact Below.drewN (Below.refl _ _) _
  have HBwV : Hid (Below w.heap.size w V) := HBW.out.trans (HBV.out.mono HBW.out.size)
  have HXV := hidden (HXW.out.to HBV.out)
  have HRV : Hid (V.heap[rb]? = some (.cells #[.int .i64 0, .int .i64 0] 48 (0, 0))) := (HBV.out.block rb hrl).trans HRB.out
  have hrlV : rb < V.heap.size := Nat.lt_of_lt_of_le hrl HBV.out.size
  have c0 : V.cell? ⟨r, 0, none⟩ = some (.int .i64 1) := HXV.out.lay
  have N1 := hidden (packed_any r T n h 1 own V HXV.out)
  clear hq GA
  go_wp2_with fail
  go_at_call 61
  refine N1.out.mono ?_
  rintro e w1 (⟨y, q, q1, q2, q3, rfl, q4, q5⟩ | ⟨q1, p0, rfl, hp1, hp2, hp3⟩)
  · have HQ1 := hidden q1
    have HT1 := hidden q4
    have HG1 : Hid (w.grownBy w1 (some r)) := grown_trans (gbel HBwV.out _) q5
    have HR1 : Hid (w1.heap[rb]? = some (.cells #[.int .i64 0, .int .i64 0] 48 (0, 0))) := (q5.block rb hrlV (fun e => hrr (Option.some.inj e).symm)).trans HRV.out
    have hrl1 : rb < w1.heap.size := Nat.lt_of_lt_of_le hrlV q5.size
    have N2 := hidden (packed_any r T q h 0 (own - y) w1 q4)
    have e1 : IntKind.i64.wrap (own - y) = own - y := wrapI _ (by omega) (by omega)
    clear q1 q4 q5 c0 N1
    go_wp2_with fail
    go_at_call 61
    refine N2.out.mono ?_
    rintro e w2 (⟨z, q', p1, p2, p3, rfl, p4, p5⟩ | ⟨q1, p0, rfl, hp1, hp2, hp3⟩)
    · have HOK : Hid (AndB T n (2 * (1 + h.2.1 + h.2.2.1 + i)) ⟨own - y, own - y - z⟩) := by rw [HOWN.out]; exact ⟨y, q, z, q', HQ1.out, q2, q3, p1, p3, rfl⟩
      have HNX : Hid (nextA T n = q') := nextA_of HQ1.out p1
      have HT2 : Hid (ByAt w2 r T (nextA T n) h) := by show ByAt _ _ _ _ _; rw [HNX.out]; exact p4
      have HG2 : Hid (w.grownBy w2 (some r)) := grown_trans HG1.out p5
      have HR2 : Hid (w2.heap[rb]? = some (.cells #[.int .i64 0, .int .i64 0] 48 (0, 0))) := (p5.block rb hrl1 (fun e => hrr (Option.some.inj e).symm)).trans HR1.out
      have r0 : w2.cell? ⟨rb, 0, none⟩ = some (.int .i64 0) := heap_cell HR2.out
      have r1 : w2.cell? ⟨rb, 1, none⟩ = some (.int .i64 0) := heap_cell HR2.out
      have f0 : w2.frozen? ⟨rb, 0, none⟩ = false := heap_fz HR2.out _
      have f1 : w2.frozen? ⟨rb, 1, none⟩ = false := heap_fz HR2.out _
      have e2 : IntKind.i64.wrap (own - y - z) = own - y - z := wrapI _ (by omega) (by omega)
      generalize own - y = yy at *
      clear p1 p4 p5 N2
      go_wp2
      obtain ⟨w6, hw6⟩ : ∃ x, x = (w2.setCell ⟨rb, 0, none⟩ (.int .i64 yy)).setCell ⟨rb, 1, none⟩ (.int .i64 (yy - z)) := ⟨_, rfl⟩
      have HS6 : Hid (w6.heap[rb]? = some (.cells #[.int .i64 yy, .int .i64 (yy - z)] 48 (0, 0))) := by rw [hw6]; exact set2 HR2.out _ _
      have HG6 : Hid (w2.grownBy w6 (some rb)) := by rw [hw6]; exact grown_trans (gset _ _ _ _) (gset _ _ _ _)
      rw [← hw6]
      have z0 : w6.cell? ⟨rb, 0, none⟩ = some (.int .i64 yy) := heap_cell HS6.out
      have z1 : w6.cell? ⟨rb, 1, none⟩ = some (.int .i64 (yy - z)) := heap_cell HS6.out
      clear r0 r1 f0 f1 hw6
      refine bodyPost_ret (v := .agg #[.int .i64 yy, .int .i64 (yy - z)]) (by simp [results, Tryd.results43, go_sem, *]) rfl ?_
      exact Or.inl ⟨⟨yy, yy - z⟩, HOK.out, rfl, HT2.out.grown HG6.out hrr, grown_far HG2.out HG6.out hrw⟩
    · have HNO : Hid (placeA T n (2 * (1 + h.2.1 + h.2.2.1 + i)) = q ∧ ¬ ∃ d, AndB T n (2 * (1 + h.2.1 + h.2.2.1 + i)) d) := by rw [HOWN.out]; exact placeA_second HQ1.out q2 q3 q1
      have H1 := hidden hp1
      have H2' := hidden hp2
      have H3 := hidden hp3
      clear hp1 hp2 hp3 N2 q1
      unfold thrown
      go_wp2
      have hTh : Thr w r (placeA T n (2 * (1 + h.2.1 + h.2.2.1 + i)) : Nat) (thrown p0) w2 := ⟨p0, rfl, by rw [HNO.out.1]; exact H1.out, Nat.le_trans HG1.out.size H2'.out, grown_trans HG1.out H3.out⟩
      first | exact ⟨rfl, Or.inr ⟨HNO.out.2, hTh⟩⟩ | exact Or.inr ⟨HNO.out.2, hTh⟩
  · have HNO : Hid (placeA T n (2 * (1 + h.2.1 + h.2.2.1 + i)) = n ∧ ¬ ∃ d, AndB T n (2 * (1 + h.2.1 + h.2.2.1 + i)) d) := by rw [HOWN.out]; exact placeA_first q1
    have H1 := hidden hp1
    have H2' := hidden hp2
    have H3 := hidden hp3
    clear hp1 hp2 hp3 N1 q1 c0
    unfold thrown
    go_wp2
    have hTh : Thr w r (placeA T n (2 * (1 + h.2.1 + h.2.2.1 + i)) : Nat) (thrown p0) w1 := ⟨p0, rfl, by rw [HNO.out.1]; exact H1.out, Nat.le_trans HBwV.out.size H2'.out, grown_trans (gbel HBwV.out _) H3.out⟩
    first | exact ⟨rfl, Or.inr ⟨HNO.out.2, hTh⟩⟩ | exact Or.inr ⟨HNO.out.2, hTh⟩


end Go.Proofs.YtdiahnommkhkiaaDoor

namespace Go.Proofs.YtdiahnommkhkiaaDoor
open Go.RowKit

theorem lineAt_drop (T : List UInt8) (p j : Nat) : lineAt T (p + j) = lineAt (T.drop p) j := by
  unfold lineAt
  rw [List.drop_drop]
set_option maxRecDepth 100000 in
set_option maxHeartbeats 4000000 in
theorem readBehind_by (r : Nat) (T : List UInt8) (n : Nat) (h : Int × Int × Int × Int × Int) (w : World) (x : ByAt w r T n h) (hv : Vars w) (hr2 : 2 ≤ r) :
    Calls Tryd.prog 44 #[.pointer (some ⟨r, 0, none⟩)] w fun e w' =>
      (BeOk (T.drop n) 0 ∧ e = .returned (.tuple #[]) ∧ w.grownBy w' (some r)) ∨ ((¬ BeOk (T.drop n) 0) ∧ Thr w r (n : Int) e w') := by
  have hlt : r < w.heap.size := x.lt
  have HLN : Hid (T.length ≤ 1048576) := x.len
  have HNL : Hid (n ≤ T.length) := x.le
  have HV := hidden hv
  have H2 : Hid (2 ≤ w.heap.size) := by show _ ≤ _; omega
  have B0 := hidden (begin_by r T n h w x)
  obtain ⟨U, hU⟩ : ∃ U, U = T.drop n := ⟨_, rfl⟩
  have HUL : Hid (n + U.length = T.length) := by show _ = _; have := HNL.out; rw [hU]; simp; omega
  have HLA : Hid (∀ j, lineAt T (n + j) = lineAt U j) := fun j => by rw [hU]; exact lineAt_drop T n j
  have HU := hidden hU
  have HC : Hid (∀ w' kk bg, ByB w' r T kk h bg → w'.cell? ⟨r, 6, none⟩ = some (.string (bs T)) ∧ w'.cell? ⟨r, 7, none⟩ = some (.int .i64 (kk : Int)) ∧ w'.cell? ⟨r, 0, none⟩ = some (.int .i64 1)) := fun w' kk bg hb => by
    obtain ⟨ln, q1, q⟩ := hb
    exact ⟨q.cell 6, q.cell 7, q.cell 0⟩
  have LN : Hid (∀ (m : Nat) w', m ≤ (linesOf U).length → ByB w' r T (n + offs (linesOf U) m) h (n : Int) → w.grownBy w' (some r) → Calls Tryd.prog 52 #[.pointer (some ⟨r, 0, none⟩)] w' fun e w'' =>
      (∃ a, (linesOf U)[m]? = some a ∧ e = .returned (.string (bs a)) ∧ ByB w'' r T (n + offs (linesOf U) (m + 1)) h (n : Int) ∧ w'.grownBy w'' (some r)) ∨ ((linesOf U)[m]? = none ∧ Thr w' r (n : Int) e w'')) := fun m w' hm hb hg => by
    have hol := offs_len m U hm
    have hul := HUL.out
    refine (line_by r T _ h _ w' hb (by omega) HLN.out (HV.out.grown hg hr2 H2.out)).mono ?_
    rintro e w'' (⟨a, q1, q2, q3, _, q4⟩ | ⟨q1, q2⟩)
    · have hL : (linesOf U)[m]? = some a := by rw [← lineAt_off m U hm, ← HLA.out]; exact q1
      refine Or.inl ⟨a, hL, q2, ?_, q4⟩
      rw [offs_next _ m a hL]
      rw [show n + offs (linesOf U) m + a.length + 1 = n + (offs (linesOf U) m + a.length + 1) by omega] at q3
      exact q3
    · exact Or.inr ⟨by rw [← lineAt_off m U hm, ← HLA.out]; exact q1, q2⟩
  have HAL : Hid (∀ (m : Nat) (a : List UInt8), (linesOf U)[m]? = some a → a.length ≤ 1048576) := fun m a q1 => by
    have h0 := (List.getElem?_eq_some_iff.1 q1).1
    have h1 := offs_len (m + 1) U h0
    have h2 := offs_next _ m a q1
    have h3 := HLN.out
    have h4 := HUL.out
    omega
  clear x hv hU
  go_enter Tryd.func44, Tryd.ntmps44
  go_wp2_with fail
  go_at_call 50
  refine B0.out.mono ?_
  rintro e w0 ⟨rfl, hr0, hg0⟩
  have HT0 := hidden hr0
  have HG0 := hidden hg0
  clear hr0 hg0 B0
  go_wp2_with fail
  go_loopg [] ((linesOf U).length) (fun gk w' => ∃ (m : Nat), m ≤ (linesOf U).length ∧ gk = (linesOf U).length - m ∧ Hid (Names U 0 m) ∧ Hid (ByB w' r T (n + offs (linesOf U) m) h (n : Int)) ∧ Hid (w.grownBy w' (some r)))
  case atStart => exact ⟨0, Nat.zero_le _, rfl, fun j a h1 h2 => absurd h2 (by omega), HT0.out, HG0.out⟩
  case round =>
    obtain ⟨m, hml, hgk, HN, HT, HG⟩ := hrel
    clear HT0 HG0
    have hbz := bs_size T
    have hul := HUL.out
    have hol := offs_len m U hml
    have c6 := (HC.out _ _ _ HT.out).1
    have c7 := (HC.out _ _ _ HT.out).2.1
    have HTL := hidden (text_len U)
    by_cases hmore : n + offs (linesOf U) m < T.length
    · have hoI : ((n + offs (linesOf U) m : Nat) : Int) < (T.length : Int) := by omega
      have LNm := hidden (fun w' => LN.out m w' hml)
      have HOB : Hid (m = (linesOf U).length → restOf U ≠ []) := fun he hr => by
        have := HTL.out
        rw [hr, ← he] at this
        simp at this; omega
      generalize n + offs (linesOf U) m = om at *
      generalize T.length = tl at *
      generalize bs T = sT at *
      go_wp2_with fail
      go_quiet (fail)
      clear c6 c7
      generalize hdw : World.drewN wr _ = wd at *
      have HTd : Hid (ByB wd r T om h (n : Int)) := by rw [← hdw]; exact HT.out.to (Below.drewN (Below.refl _ _) _)
      have HGd : Hid (w.grownBy wd (some r)) := by rw [← hdw]; exact grown_trans HG.out (gbel (Below.drewN (Below.refl _ _) _) _)
      have c0 := (HC.out _ _ _ HTd.out).2.2
      have L1 := hidden (LNm.out wd HTd.out HGd.out)
      clear hdw HT HG LNm
      go_wp2_with fail
      go_at_call 52
      refine L1.out.mono ?_
      rintro e w2 (⟨a, q1, rfl, q3, q4⟩ | ⟨q1, p0, rfl, hp1, hp2, hp3⟩)
      · have hmlt : m < (linesOf U).length := (List.getElem?_eq_some_iff.1 q1).1
        have HL := hidden q1
        have HR2 := hidden q3
        have HG2 : Hid (w.grownBy w2 (some r)) := grown_trans HGd.out q4
        have hal : a.length ≤ 1048576 := HAL.out m a q1
        have hce : ((bs a).toList == [99]) = decide (a = [99]) := by rw [bs_toList]; by_cases hx : a = [99] <;> simp [hx]
        have IN := hidden (isName_any a hal w2 (HV.out.grown HG2.out hr2 H2.out))
        clear q1 q3 q4 L1 c0
        generalize bs a = sa at *
        by_cases hac : a = [99]
        · have hd : decide (a = [99]) = true := by simp [hac]
          rw [hd] at hce
          have HOK : Hid (BeOk (T.drop n) 0) := by rw [← HU.out]; exact ⟨m, Nat.zero_le _, HN.out, Or.inl (by rw [HL.out, hac])⟩
          go_wp2
          first | go_end0 | refine bodyPost_ret (results_none rfl _ _ _) rfl ?_
          exact Or.inl ⟨HOK.out, rfl, HG2.out⟩
        · have hd : decide (a = [99]) = false := by simp [hac]
          rw [hd] at hce
          obtain ⟨b, HB⟩ : ∃ b, Hid (nameOk a = b) := ⟨_, rfl⟩
          rw [HB.out] at IN
          go_wp2_with fail
          go_at_call 62
          refine IN.out.mono ?_
          rintro e w3 ⟨rfl, hb3⟩
          have HT3 := hidden (HR2.out.to hb3)
          have HG3 : Hid (w.grownBy w3 (some r)) := grown_trans HG2.out (gbel hb3 _)
          have MU := hidden (must_by r T _ h _ b w3 HT3.out)
          clear hb3 IN
          go_wp2_with fail
          go_at_call 53
          refine MU.out.mono ?_
          rintro e w4 (⟨rfl, rfl, rfl⟩ | ⟨rfl, p0, rfl, hp1, hp2, hp3⟩)
          · have HN2 : Hid (Names U 0 (m + 1)) := fun j c h1 h2 h3 => by
              rcases Nat.lt_or_ge j m with h' | h'
              · exact HN.out j c h1 h' h3
              · have : j = m := by omega
                subst this
                rw [HL.out] at h3
                cases h3
                exact ⟨hac, HB.out⟩
            clear MU HN
            go_wp2
            go_roundg ((linesOf U).length - (m + 1))
            case measure => omega
            case rel => exact ⟨m + 1, hmlt, rfl, HN2.out, HT3.out, HG3.out⟩
          · have H1 := hidden hp1
            have H2' := hidden hp2
            have H3 := hidden hp3
            have HBD : Hid (¬ BeOk (T.drop n) 0) := by
              show ¬ _
              rw [← HU.out]
              exact fun hok => be_not hok ⟨Nat.zero_le _, HN.out, Or.inl ⟨a, HL.out, hac, HB.out⟩⟩
            clear hp1 hp2 hp3 MU
            unfold thrown
            go_wp2
            have hTh : Thr w r (n : Int) (thrown p0) w4 := ⟨p0, rfl, H1.out, Nat.le_trans HG3.out.size H2'.out, grown_trans HG3.out H3.out⟩
            first | exact ⟨rfl, Or.inr ⟨HBD.out, hTh⟩⟩ | exact Or.inr ⟨HBD.out, hTh⟩
      · have H1 := hidden hp1
        have H2' := hidden hp2
        have H3 := hidden hp3
        have HBD : Hid (¬ BeOk (T.drop n) 0) := by
          show ¬ _
          rw [← HU.out]
          have hme : m = (linesOf U).length := by
            rcases Nat.lt_or_ge m (linesOf U).length with h' | h'
            · rw [List.getElem?_eq_getElem h'] at q1; cases q1
            · omega
          exact fun hok => be_not hok ⟨Nat.zero_le _, HN.out, Or.inr ⟨hme, HOB.out hme⟩⟩
        clear hp1 hp2 hp3 L1 q1 c0
        unfold thrown
        go_wp2
        have hTh : Thr w r (n : Int) (thrown p0) w2 := ⟨p0, rfl, H1.out, Nat.le_trans HGd.out.size H2'.out, grown_trans HGd.out H3.out⟩
        first | exact ⟨rfl, Or.inr ⟨HBD.out, hTh⟩⟩ | exact Or.inr ⟨HBD.out, hTh⟩
    · have hoI : ¬ ((n + offs (linesOf U) m : Nat) : Int) < (T.length : Int) := by omega
      have HOK : Hid (BeOk (T.drop n) 0) := by
        have h1 := HTL.out
        have hme : m = (linesOf U).length := by
          rcases Nat.lt_or_ge m (linesOf U).length with h' | h'
          · exact absurd (by have := offs_lt h'; omega) hmore
          · omega
        rw [← HU.out]
        refine ⟨m, Nat.zero_le _, HN.out, Or.inr ⟨hme, ?_⟩⟩
        rw [hme] at hmore
        exact List.eq_nil_of_length_eq_zero (by omega)
      generalize n + offs (linesOf U) m = om at *
      generalize T.length = tl at *
      generalize bs T = sT at *
      go_wp2_with fail
      go_quiet (fail)
      clear c6 c7
      go_wp2
      first | go_end0 | refine bodyPost_ret (results_none rfl _ _ _) rfl ?_
      exact Or.inl ⟨HOK.out, rfl, grown_trans HG.out (gbel (Below.drewN (Below.refl _ _) _) _)⟩


end Go.Proofs.YtdiahnommkhkiaaDoor
