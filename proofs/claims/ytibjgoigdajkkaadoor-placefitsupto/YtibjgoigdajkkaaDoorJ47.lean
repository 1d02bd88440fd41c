import Derived.Test.YtibjgoigdajkkaaDoorJ44
import Derived.Test.YtibjgoigdajkkaaDoorJ46
import Derived.Test.YtibjgoigdajkkaaDoorJ30
import Derived.Test.YtibjgoigdajkkaaDoorJ29
namespace Go.Proofs.YtibjgoigdajkkaaDoor
open Go.RowKit

set_option maxRecDepth 100000 in
set_option maxHeartbeats 8000000 in
theorem fits_any (w : World) (B : Nat) (S : NtS) (N : NtD) (h : NtAt B w S N) (hB : B ≤ w.heap.size) (hin : NtIn N) (sh : ShD) :
    Calls Tryd.prog 9 #[.agg (S.cells N), .agg sh.arr] w fun e w' => e = .returned (.bool (fitsB sh N)) ∧ Below w.heap.size w w' := by
  obtain ⟨x0, x1, x2, x3, x4⟩ := sh
  have HE : Hid (fitsB ⟨x0, x1, x2, x3, x4⟩ N = ((⟨x0, x1, x2, x3, x4⟩ : ShD).ok && decide (N.ins ≤ x0) && decide ((N.outs.length : Int) ≤ x1) && decide ((N.init.length : Int) ≤ x2) && decide (mostI (depN N) 1 ≤ x4) && decide (N.ins + N.init.length + N.tabs.length ≤ x3))) := rfl
  obtain ⟨r, HR⟩ : ∃ r, Hid (fitsB ⟨x0, x1, x2, x3, x4⟩ N = r) := ⟨_, rfl⟩
  rw [HR.out] at HE ⊢
  have i0 := hin.i0
  have i1 := hin.i1
  have i2 := hin.il
  have i3 := hin.tl
  have HSV : Hid (∀ v : World, Calls Tryd.prog 23 #[.agg #[.int .i64 x0, .int .i64 x1, .int .i64 x2, .int .i64 x3, .int .i64 x4]] v fun e w' => e = .returned (.bool (⟨x0, x1, x2, x3, x4⟩ : ShD).ok) ∧ Below v.heap.size v w') := fun v => shapeValid_doc v ⟨x0, x1, x2, x3, x4⟩
  have HDP : Hid (∀ v : World, Below w.heap.size w v → Calls Tryd.prog 25 #[.agg (S.cells N)] v fun e w' => e = .returned (.int .i64 (depN N)) ∧ Below v.heap.size v w') := fun v hv => depth_doc B v S N (h.to (hv.mono hB)) (Nat.le_trans hB hv.size) hin
  show Calls Tryd.prog 9 #[.agg (S.cells N), .agg #[.int .i64 x0, .int .i64 x1, .int .i64 x2, .int .i64 x3, .int .i64 x4]] w _
  unfold NtS.cells at HDP ⊢
  obtain ⟨ni, Eni⟩ := exh N.ins
  obtain ⟨nr, Enr⟩ := exh N.init.length
  obtain ⟨nt, Ent⟩ := exh N.tabs.length
  obtain ⟨nx, Enx⟩ := exh N.next.length
  obtain ⟨no, Eno⟩ := exh N.outs.length
  obtain ⟨dp, Edp⟩ := exh (depN N)
  rw [← Eni.out] at i0 i1
  rw [← Enr.out] at i2
  rw [← Ent.out] at i3
  rw [← Eni.out, ← Enr.out, ← Ent.out, ← Enx.out, ← Eno.out, ← Edp.out] at HDP
  rw [← Eni.out, ← Enr.out, ← Ent.out, ← Eno.out, ← Edp.out] at HE
  rw [← Eni.out, ← Enr.out, ← Ent.out, ← Enx.out, ← Eno.out]
  obtain ⟨nb, Enb⟩ := exh w.heap.size
  obtain ⟨sb, Esb⟩ := exh (w.heap.size + 1)
  have a1 : Below w.heap.size w (w.alloc (.cells #[.int .i64 ni, .slice S.a1 nr S.c1, .slice S.a2 nt S.c2, .slice S.a3 nx S.c3, .slice S.a4 no S.c4] 26)) := (Below.refl _ _).alloc (Nat.le_refl _) _
  have a2 : Below (w.alloc (.cells #[.int .i64 ni, .slice S.a1 nr S.c1, .slice S.a2 nt S.c2, .slice S.a3 nx S.c3, .slice S.a4 no S.c4] 26)).heap.size (w.alloc (.cells #[.int .i64 ni, .slice S.a1 nr S.c1, .slice S.a2 nt S.c2, .slice S.a3 nx S.c3, .slice S.a4 no S.c4] 26)) ((w.alloc (.cells #[.int .i64 ni, .slice S.a1 nr S.c1, .slice S.a2 nt S.c2, .slice S.a3 nx S.c3, .slice S.a4 no S.c4] 26)).alloc (.cells #[.int .i64 x0, .int .i64 x1, .int .i64 x2, .int .i64 x3, .int .i64 x4] 28)) := (Below.refl _ _).alloc (Nat.le_refl _) _
  have HB2 : Hid (Below w.heap.size w ((w.alloc (.cells #[.int .i64 ni, .slice S.a1 nr S.c1, .slice S.a2 nt S.c2, .slice S.a3 nx S.c3, .slice S.a4 no S.c4] 26)).alloc (.cells #[.int .i64 x0, .int .i64 x1, .int .i64 x2, .int .i64 x3, .int .i64 x4] 28))) := a1.trans (a2.mono a1.size)
  have HNB : Hid (Blk ((w.alloc (.cells #[.int .i64 ni, .slice S.a1 nr S.c1, .slice S.a2 nt S.c2, .slice S.a3 nx S.c3, .slice S.a4 no S.c4] 26)).alloc (.cells #[.int .i64 x0, .int .i64 x1, .int .i64 x2, .int .i64 x3, .int .i64 x4] 28)) nb 26 #[.int .i64 ni, .slice S.a1 nr S.c1, .slice S.a2 nt S.c2, .slice S.a3 nx S.c3, .slice S.a4 no S.c4]) := by rw [Enb.out]; exact (Blk.new w _ _).below a2
  have HSB : Hid (Blk ((w.alloc (.cells #[.int .i64 ni, .slice S.a1 nr S.c1, .slice S.a2 nt S.c2, .slice S.a3 nx S.c3, .slice S.a4 no S.c4] 26)).alloc (.cells #[.int .i64 x0, .int .i64 x1, .int .i64 x2, .int .i64 x3, .int .i64 x4] 28)) sb 28 #[.int .i64 x0, .int .i64 x1, .int .i64 x2, .int .i64 x3, .int .i64 x4]) := by
    have e : sb = (w.alloc (.cells #[.int .i64 ni, .slice S.a1 nr S.c1, .slice S.a2 nt S.c2, .slice S.a3 nx S.c3, .slice S.a4 no S.c4] 26)).heap.size := by rw [Esb.out]; simp
    rw [e]; exact Blk.new _ _ _
  have HC : Hid (∀ v : World, Below ((w.alloc (.cells #[.int .i64 ni, .slice S.a1 nr S.c1, .slice S.a2 nt S.c2, .slice S.a3 nx S.c3, .slice S.a4 no S.c4] 26)).alloc (.cells #[.int .i64 x0, .int .i64 x1, .int .i64 x2, .int .i64 x3, .int .i64 x4] 28)).heap.size ((w.alloc (.cells #[.int .i64 ni, .slice S.a1 nr S.c1, .slice S.a2 nt S.c2, .slice S.a3 nx S.c3, .slice S.a4 no S.c4] 26)).alloc (.cells #[.int .i64 x0, .int .i64 x1, .int .i64 x2, .int .i64 x3, .int .i64 x4] 28)) v → (v.cell? ⟨nb, 0, none⟩ = some (.int .i64 ni) ∧ v.cell? ⟨nb, 1, none⟩ = some (.slice S.a1 nr S.c1) ∧ v.cell? ⟨nb, 2, none⟩ = some (.slice S.a2 nt S.c2) ∧ v.cell? ⟨nb, 3, none⟩ = some (.slice S.a3 nx S.c3) ∧ v.cell? ⟨nb, 4, none⟩ = some (.slice S.a4 no S.c4)) ∧ v.cell? ⟨sb, 0, none⟩ = some (.int .i64 x0) ∧ v.cell? ⟨sb, 1, none⟩ = some (.int .i64 x1) ∧ v.cell? ⟨sb, 2, none⟩ = some (.int .i64 x2) ∧ v.cell? ⟨sb, 3, none⟩ = some (.int .i64 x3) ∧ v.cell? ⟨sb, 4, none⟩ = some (.int .i64 x4)) := fun v hv => by
    have b1 := HNB.out.below hv
    have b2 := HSB.out.below hv
    exact ⟨⟨b1.cell (i := 0) rfl, b1.cell (i := 1) rfl, b1.cell (i := 2) rfl, b1.cell (i := 3) rfl, b1.cell (i := 4) rfl⟩, b2.cell (i := 0) rfl, b2.cell (i := 1) rfl, b2.cell (i := 2) rfl, b2.cell (i := 3) rfl, b2.cell (i := 4) rfl⟩
  clear a1 a2 HNB HSB h hin
  go_enter Tryd.func9, Tryd.ntmps9
  go_upto_region 1 with fail
  rw [← Esb.out, ← Enb.out]
  generalize ((w.alloc (.cells #[.int .i64 ni, .slice S.a1 nr S.c1, .slice S.a2 nt S.c2, .slice S.a3 nx S.c3, .slice S.a4 no S.c4] 26)).alloc (.cells #[.int .i64 x0, .int .i64 x1, .int .i64 x2, .int .i64 x3, .int .i64 x4] 28)) = w2 at *
  obtain ⟨⟨n0, n1, n2, n3, n4⟩, s0, s1, s2, s3, s4⟩ := HC.out w2 (Below.refl _ _)
  go_wp2_with fail
  go_at_call 23
  refine (HSV.out _).mono ?_
  rintro e w3 ⟨rfl, hb3⟩
  have HB3 := hidden hb3
  clear hb3 n0 n1 n2 n3 n4 s0 s1 s2 s3 s4
  obtain ⟨⟨n0, n1, n2, n3, n4⟩, s0, s1, s2, s3, s4⟩ := HC.out w3 HB3.out
  obtain ⟨so, Eso⟩ := exh (⟨x0, x1, x2, x3, x4⟩ : ShD).ok
  rw [← Eso.out] at HE
  rw [← Eso.out]
  go_wp2_with fail
  go_at_call 25
  refine (HDP.out w3 (HB2.out.trans (HB3.out.mono HB2.out.size))).mono ?_
  rintro e w4 ⟨rfl, hb4⟩
  have HB4 : Hid (Below w2.heap.size w2 w4) := HB3.out.trans (hb4.mono HB3.out.size)
  clear hb4 n0 n1 n2 n3 n4 s0 s1 s2 s3 s4 HDP HSV
  have HMO := hidden (most_doc w4 dp 1)
  obtain ⟨dm, Edm⟩ := exh (mostI dp 1)
  rw [← Edm.out] at HMO HE
  go_wp2_with fail
  go_at_call 24
  refine HMO.out.mono ?_
  rintro e w5 ⟨rfl, hw5⟩
  have HB5 : Hid (Below w.heap.size w w5) := by rw [hw5]; exact HB2.out.trans (HB4.out.mono HB2.out.size)
  have hb5 : Below w2.heap.size w2 w5 := by rw [hw5]; exact HB4.out
  obtain ⟨⟨n0, n1, n2, n3, n4⟩, s0, s1, s2, s3, s4⟩ := HC.out w5 hb5
  clear hw5 hb5 HMO HB4 HB3 HC
  have e1 : IntKind.i64.wrap (ni + (nr : Int)) = ni + (nr : Int) := wrapI _ (by omega) (by omega)
  have e2 : IntKind.i64.wrap (ni + (nr : Int) + (nt : Int)) = ni + (nr : Int) + (nt : Int) := wrapI _ (by omega) (by omega)
  cases so with
  | false =>
    go_wp2
    go_ret
    exact ⟨ret_bool (by rw [HE.out]; rfl), HB5.out⟩
  | true =>
    by_cases g0 : ni ≤ x0
    · skip
      by_cases g1 : (no : Int) ≤ x1
      · skip
        by_cases g2 : (nr : Int) ≤ x2
        · skip
          by_cases g3 : dm ≤ x4
          · skip
            by_cases g4 : ni + (nr : Int) + (nt : Int) ≤ x3
            · skip
              go_wp2
              go_ret
              exact ⟨ret_bool (by rw [HE.out, decide_eq_true (p := ni ≤ x0) (by omega), decide_eq_true (p := (no : Int) ≤ x1) (by omega), decide_eq_true (p := (nr : Int) ≤ x2) (by omega), decide_eq_true (p := dm ≤ x4) (by omega), decide_eq_true (p := ni + (nr : Int) + (nt : Int) ≤ x3) (by omega)]; rfl), HB5.out⟩
            · go_wp2
              go_ret
              exact ⟨ret_bool (by rw [HE.out, decide_eq_false (p := ni + (nr : Int) + (nt : Int) ≤ x3) (by omega)]; simp), HB5.out⟩
          · go_wp2
            go_ret
            exact ⟨ret_bool (by rw [HE.out, decide_eq_false (p := dm ≤ x4) (by omega)]; simp), HB5.out⟩
        · go_wp2
          go_ret
          exact ⟨ret_bool (by rw [HE.out, decide_eq_false (p := (nr : Int) ≤ x2) (by omega)]; simp), HB5.out⟩
      · go_wp2
        go_ret
        exact ⟨ret_bool (by rw [HE.out, decide_eq_false (p := (no : Int) ≤ x1) (by omega)]; simp), HB5.out⟩
    · go_wp2
      go_ret
      exact ⟨ret_bool (by rw [HE.out, decide_eq_false (p := ni ≤ x0) (by omega)]; simp), HB5.out⟩


end Go.Proofs.YtibjgoigdajkkaaDoor

namespace Go.Proofs.YtibjgoigdajkkaaDoor
open Go.RowKit

theorem runT_each (N : NtD) : ∀ (tr : List (List Bool)) (st : List Bool), ∀ x, x ∈ runT N tr st → x.length = N.outs.length
  | [], _, x, hx => by cases hx
  | r :: t, st, x, hx => by
    unfold runT at hx
    rcases List.mem_cons.1 hx with rfl | hx
    · unfold outT; rw [List.length_map]
    · exact runT_each N t _ x hx
theorem rows_of {w : World} {C n : Nat} {v : Value} {rows : List RD} (h : w.ownsRow C 22 1 v n (rows.map RD.v)) (hb : ∀ r, r ∈ rows → BS w r.v r.l) : ∃ a c, v = .slice a n c ∧ RowsAt w a rows ∧ rows.length = n := by
  have hl : rows.length = n := by have := h.1; simp at this; omega
  rcases h.2 with ⟨h0, h1⟩ | ⟨g, cap, cur, hv, h1⟩
  · refine ⟨none, 0, by rw [h0, h1], fun i r hr => ?_, hl⟩
    have := (List.getElem?_eq_some_iff.1 hr).1
    omega
  · refine ⟨some ⟨g, 0, none⟩, cap, hv, fun i r hr => ⟨g, 0, rfl, (h.lt g (by rw [hv]; rfl)).2, ?_, hb r (List.mem_of_getElem? hr)⟩, hl⟩
    have := h.cells (g := g) (by rw [hv]; rfl) i r.v (by rw [List.getElem?_map, hr]; rfl)
    have e : (⟨g, 0, none⟩ : Addr).add i = ⟨g, 0 + i, none⟩ := by unfold Addr.add; split <;> simp_all
    rw [e] at this
    exact this
theorem BS.row2 {w : World} {v : Value} {l : List Bool} (h : BS w v l) : ∃ a c, v = .slice a l.length c ∧ RowAt w.heap.size w a 1 (l.map boolC) := by
  rcases h with ⟨rfl, rfl⟩ | ⟨b, o, c, rfl, hb, hc⟩
  · exact ⟨none, 0, rfl, rowAt_nil⟩
  · refine ⟨_, c, rfl, fun _ => ⟨b, o, rfl, hb, fun i cs hi j x hx => ?_⟩⟩
    rw [List.getElem?_map] at hi
    cases e : l[i]? with
    | none => rw [e] at hi; cases hi
    | some y =>
      rw [e] at hi
      simp only [Option.map_some, Option.some.injEq] at hi
      subst hi
      have hj : j = 0 := by have := (List.getElem?_eq_some_iff.1 hx).1; simp [boolC] at this; omega
      subst hj
      simp only [boolC, List.getElem?_cons_zero, Option.some.injEq] at hx
      subst hx
      have := hc i y e
      simpa using this
/-- rows that were told, as a trace -/
theorem rows_tr {w : World} {C n : Nat} {v : Value} {rows : List RD} (h : w.ownsRow C 22 1 v n (rows.map RD.v)) (hb : ∀ r, r ∈ rows → BS w r.v r.l) (hn : n ≤ 5864062014805) : ∃ a c trs, v = .slice a (List.length trs) c ∧ trs.length = n ∧ trs.map TR.l = rows.map RD.l ∧ TrAt w.heap.size w a trs := by
  obtain ⟨a, c, hv, hr, hl⟩ := rows_of h hb
  have hex : ∀ r : RD, ∃ t : TR, r ∈ rows → r.v = .slice t.a t.l.length t.c ∧ t.l = r.l ∧ RowAt w.heap.size w t.a 1 (t.l.map boolC) := fun r => by
    by_cases hm : r ∈ rows
    · obtain ⟨a', c', e, hrow⟩ := (hb r hm).row2
      exact ⟨⟨a', c', r.l⟩, fun _ => ⟨e, rfl, hrow⟩⟩
    · exact ⟨⟨none, 0, []⟩, fun h => absurd h hm⟩
  obtain ⟨f, hf⟩ : ∃ f : RD → TR, ∀ r, r ∈ rows → r.v = .slice (f r).a (f r).l.length (f r).c ∧ (f r).l = r.l ∧ RowAt w.heap.size w (f r).a 1 ((f r).l.map boolC) := ⟨fun r => Classical.choose (hex r), fun r => Classical.choose_spec (hex r)⟩
  refine ⟨a, c, rows.map f, by rw [List.length_map, hl]; exact hv, by rw [List.length_map, hl], ?_, ?_, ?_, by rw [List.length_map, hl]; exact hn⟩
  · rw [List.map_map]
    exact List.map_congr_left (fun r hr => (hf r hr).2.1)
  · intro hne
    cases hrows : rows with
    | nil => rw [hrows] at hne; exact absurd rfl hne
    | cons r0 t =>
      obtain ⟨b, o, ha, hlt, _, _⟩ := hr 0 r0 (by rw [hrows]; rfl)
      refine ⟨b, o, ha, hlt, fun i cs hi j x hx => ?_⟩
      rw [← hrows, List.map_map, List.getElem?_map] at hi
      cases e : rows[i]? with
      | none => rw [e] at hi; cases hi
      | some r =>
        rw [e] at hi
        simp only [Option.map_some, Option.some.injEq, Function.comp] at hi
        subst hi
        have hj : j = 0 := by have := (List.getElem?_eq_some_iff.1 hx).1; simp [TR.cells] at this; omega
        subst hj
        simp only [TR.cells, List.getElem?_cons_zero, Option.some.injEq] at hx
        subst hx
        obtain ⟨b', o', ha', _, hc, _⟩ := hr i r e
        rw [ha] at ha'
        simp only [Option.some.injEq, Addr.mk.injEq, and_true] at ha'
        obtain ⟨rfl, rfl⟩ := ha'
        rw [show o + i * 1 + 0 = o + i by omega, hc, (hf r (List.mem_of_getElem? e)).1]
  · intro t ht
    obtain ⟨r, hr1, rfl⟩ := List.mem_map.1 ht
    exact (hf r hr1).2.2
theorem RowsAt.rl {w : World} {a : Option Addr} {rows : List RD} (h : RowsAt w a rows) : RlAt w a (rows.map RD.l) := fun i l hl => by
  rw [List.getElem?_map] at hl
  cases e : rows[i]? with
  | none => rw [e] at hl; cases hl
  | some r =>
    rw [e] at hl
    simp only [Option.map_some, Option.some.injEq] at hl
    subst hl
    obtain ⟨b, o, h1, h2, h3, h4⟩ := h i r e
    obtain ⟨a', c', e5, h6⟩ := h4.row2
    exact ⟨b, o, a', c', h1, h2, by rw [h3, e5], h6⟩
theorem TrAt.rl {B : Nat} {w : World} {a : Option Addr} {trs : List TR} (h : TrAt B w a trs) (hB : B ≤ w.heap.size) : RlAt w a (trs.map TR.l) := fun i l hl => by
  rw [List.getElem?_map] at hl
  cases e : trs[i]? with
  | none => rw [e] at hl; cases hl
  | some t =>
    rw [e] at hl
    simp only [Option.map_some, Option.some.injEq] at hl
    subst hl
    obtain ⟨b, o, h1, h2, h3⟩ := h.row.el e
    refine ⟨b, o, t.a, t.c, h1, Nat.lt_of_lt_of_le h2 hB, ?_, (h.each t (List.mem_of_getElem? e)).mono hB⟩
    have := h3 0 _ rfl
    simpa using this


end Go.Proofs.YtibjgoigdajkkaaDoor
