import Derived.Test.YtlaljeobdddegaaAcI
namespace Go.Proofs.Ytlaljeobdddegaa
open Go.RowKit

/-- a sifter in a box: its graph, what is marked, what waits -/
structure SiAt (C : Nat) (w : World) (sb gb g n : Nat) (s : List Bool × List Nat) (wv : Value) : Prop where
  c0 : w.cell? ⟨sb, 0, none⟩ = some (.pointer (some ⟨gb, 0, none⟩))
  c1 : w.cell? ⟨sb, 1, none⟩ = some (.slice (some ⟨g, 0, none⟩) n n)
  c2 : w.cell? ⟨sb, 2, none⟩ = some wv
  nd : w.ownsRow C 4 1 (.slice (some ⟨g, 0, none⟩) n n) n (s.1.map bV)
  wt : w.ownsRow C 3 1 wv s.2.length (s.2.map iV)
  fr : ∀ j, w.frozen? ⟨sb, j, none⟩ = false
  ge : C ≤ sb
  lt : sb < w.heap.size
  ne : sb ≠ g
  nw : wv.ownBlock ≠ some sb
  ng : wv.ownBlock ≠ some g
theorem SiAt.len {C : Nat} {w : World} {sb gb g n : Nat} {s : List Bool × List Nat} {wv : Value} (h : SiAt C w sb gb g n s wv) : s.1.length = n := by have := h.nd.1; simpa using this
theorem SiAt.to {C : Nat} {w w' : World} {sb gb g n : Nat} {s : List Bool × List Nat} {wv : Value} (h : SiAt C w sb gb g n s wv) (hb : Below w.heap.size w w') : SiAt C w' sb gb g n s wv :=
  ⟨(hb.cell (p := ⟨sb, 0, none⟩) h.lt).trans h.c0, (hb.cell (p := ⟨sb, 1, none⟩) h.lt).trans h.c1, (hb.cell (p := ⟨sb, 2, none⟩) h.lt).trans h.c2, own_below h.nd hb, own_below h.wt hb, fun j => (hb.frozen (p := ⟨sb, j, none⟩) h.lt).trans (h.fr j), h.ge, Nat.lt_of_lt_of_le h.lt hb.size, h.ne, h.nw, h.ng⟩

set_option maxRecDepth 100000 in
set_option maxHeartbeats 8000000 in
theorem needC_any (C : Nat) (w : World) (sb gb g n : Nat) (s : List Bool × List Nat) (wv : Value) (h : SiAt C w sb gb g n s wv) (hC : C ≤ w.heap.size) (hn : n ≤ 60000) (l : Int) (v : Nat) (h0 : 0 ≤ l) (hv : l.toNat / 2 = v) (hvn : v < n) (hwl : s.2.length ≤ 60000) :
    Calls Try.prog 46 #[.pointer (some ⟨sb, 0, none⟩), .int .i64 l] w fun e w' => (∃ v, e = .returned v) ∧ (∃ wv', SiAt C w' sb gb g n (needC v s) wv') ∧ Below C w w' := by
  have hnl : s.1.length = n := h.len
  obtain ⟨nd, wt⟩ := s
  simp only at hnl hwl
  have q1 : Int.tdiv l 2 = (v : Int) := by rw [Int.tdiv_eq_ediv_of_nonneg h0]; omega
  have e1 : IntKind.i64.wrap (v : Int) = (v : Int) := wrapI _ (by omega) (by omega)
  have hvI : (v : Int) < (n : Int) := by omega
  obtain ⟨b, hb⟩ : ∃ b, nd[v]? = some b := getElem_lt (by omega)
  have cB : w.cell? ⟨g, v, none⟩ = some (.bool b) := by
    rw [h.nd.cellAt v (by omega), List.getElem?_map, hb]; rfl
  have c1 := h.c1
  have HSI := hidden h
  have hHB := hidden hb
  clear h hv hb
  go_enter Try.func46, Try.ntmps46
  cases b
  · obtain ⟨i3, hi3, hz3, hs3, hb3⟩ := info_int
    have HI2 := hidden hi3
    have HZ2 := hidden hz3
    have HS2 := hidden hs3
    have HBY2 := hidden hb3
    clear hi3 hz3 hs3 hb3
    have HST := hidden (HSI.out.nd.stored v (.bool true))
    have hfz := HSI.out.nd.frozenAt v
    go_upto_region 3 with fail
    generalize hW5 : World.setCell w _ _ = w5
    rw [hW5] at HST
    have HN5 : Hid (w5.ownsRow C 4 1 (.slice (some ⟨g, 0, none⟩) n n) n ((nd.set v true).map bV)) := by
      have := HST.out.1
      rw [show Value.bool true = bV true from rfl, ← List.map_set] at this
      exact this
    have hg5 : w.grownBy w5 (some g) := HST.out.2
    have HW5 : Hid (w5.ownsRow C 3 1 wv wt.length (wt.map iV)) := HSI.out.wt.kept hg5 (.inr HSI.out.ng)
    have HF5 : Hid (∀ j, w5.frozen? ⟨sb, j, none⟩ = false) := fun j => (hg5.frozen_far ⟨sb, j, none⟩ HSI.out.lt (by simpa using HSI.out.ne)).trans (HSI.out.fr j)
    have HC5 : Hid (∀ j, w5.cell? ⟨sb, j, none⟩ = w.cell? ⟨sb, j, none⟩) := fun j => hg5.cell_far ⟨sb, j, none⟩ HSI.out.lt (by simpa using HSI.out.ne)
    have d2 : w5.cell? ⟨sb, 2, none⟩ = some wv := (HC5.out 2).trans HSI.out.c2
    have HG5 := hidden hg5
    have hs5 := hg5.size
    have hlt := HSI.out.lt
    have hgC := (HSI.out.nd.lt g rfl).1
    clear hW5 HST hfz hg5 cB c1
    have hm1 : wt.length + 1 ≤ maxLen := by simp only [maxLen]; omega
    have hm2 : (wt.length + 1) * 8 ≤ 140737488355328 := by omega
    have hm3 : C ≤ (w5.alloc (.cells #[.int .i64 (v : Int)] 3)).heap.size := by simp; omega
    have KC : Hid (∀ w', (w5.alloc (.cells #[.int .i64 (v : Int)] 3)).grownBy w' wv.ownBlock → w'.cell? ⟨sb, 2, none⟩ = some wv ∧ w'.frozen? ⟨sb, 2, none⟩ = false) := fun w' hg => by
      have hg' : w5.grownBy w' wv.ownBlock := grown_trans (grown_al _ _ _) hg
      exact ⟨(hg'.cell_far ⟨sb, 2, none⟩ (by show sb < _; omega) (fun e => HSI.out.nw e.symm)).trans d2, (hg'.frozen_far ⟨sb, 2, none⟩ (by show sb < _; omega) (fun e => HSI.out.nw e.symm)).trans (HF5.out 2)⟩
    have tok : True := trivial
    go_wp2_with (have _t := tok; at_builtin; (refine wpList_append_lies _ rfl (.tmp 25) (.tmp 27) 24 rfl C 3 i3 _ 1 8 Try.underlying24 HI2.out HZ2.out HS2.out HBY2.out rfl (by decide) wv wt.length _ rfl (HW5.out.alloc _) ⟨w5.heap.size, 0, none⟩ 1 1 [.int .i64 (v : Int)] rfl rfl (World.news_of_block (heap_new _ _)) (by simp [Value.oneCell']) (by decide) hm1 hm2 hm3 _ rfl ?_; intro g1 cap w6 hown hgrow hat6 hlt6; clear tok; have hcc := (KC.out w6 hgrow).1; have hff := (KC.out w6 hgrow).2))
    generalize hW7 : World.setCell w6 _ _ = w7
    have hg56 : w5.grownBy w6 wv.ownBlock := grown_trans (grown_al _ _ _) hgrow
    have hg67 : w6.grownBy w7 (some sb) := by rw [← hW7]; exact grown_set _ _ _ _
    have hgs : g1 ≠ sb ∧ g1 ≠ g := by
      have hgl : g < w5.heap.size := Nat.lt_of_lt_of_le (HSI.out.nd.lt g rfl).2 hs5
      rcases hat6 with h | h
      · exact ⟨fun e => HSI.out.nw (by rw [h, e]), fun e => HSI.out.ng (by rw [h, e])⟩
      · simp at h; omega
    have hs6 := hg56.size
    have hlt5 : sb < w5.heap.size := by omega
    have hcell : ∀ j, w6.cell? ⟨sb, j, none⟩ = w.cell? ⟨sb, j, none⟩ := fun j => (hg56.cell_far ⟨sb, j, none⟩ hlt5 (fun e => HSI.out.nw e.symm)).trans (HC5.out j)
    have hfr6 : ∀ j, w6.frozen? ⟨sb, j, none⟩ = false := fun j => (hg56.frozen_far ⟨sb, j, none⟩ hlt5 (fun e => HSI.out.nw e.symm)).trans (HF5.out j)
    have hne : needC v (nd, wt) = (nd.set v true, wt ++ [v]) := by
      unfold needC
      rw [if_neg]
      simp only
      rw [hHB.out]; simp
    have hB7 : Below C w w7 := ((below_grown HG5.out hC (fun k hk => by have := Option.some.inj hk; omega)).trans (below_grown hg56 (by omega) (fun k hk => (HSI.out.wt.lt k hk).1))).trans (below_grown hg67 (by omega) (fun k hk => by have := Option.some.inj hk; have := HSI.out.ge; omega))
    have hot : ∀ j, j ≠ 2 → w7.cell? ⟨sb, j, none⟩ = w.cell? ⟨sb, j, none⟩ := fun j hj => by
      rw [← hW7]
      exact (World.cell?_setCell_other (h := fun e => hj (by cases e; rfl)) ..).trans (hcell j)
    have hme : w7.cell? ⟨sb, 2, none⟩ = some (.slice (some ⟨g1, 0, none⟩) (wt.length + 1) cap) := by rw [← hW7]; exact World.cell?_setCell_same (h := hcc) ..
    go_end0
    refine ⟨⟨_, rfl⟩, ⟨.slice (some ⟨g1, 0, none⟩) (wt.length + 1) cap, ?_⟩, hB7⟩
    rw [hne]
    refine ⟨(hot 0 (by decide)).trans HSI.out.c0, (hot 1 (by decide)).trans HSI.out.c1, hme, ?_, ?_, fun j => ?_, HSI.out.ge, by have := hg67.size; omega, HSI.out.ne, fun e => hgs.1 (by cases e; rfl), fun e => hgs.2 (by cases e; rfl)⟩
    · exact (HN5.out.kept hg56 (.inr (fun e => HSI.out.ng (by rw [← e]; rfl)))).kept hg67 (.inr (fun e => HSI.out.ne (by cases e; rfl)))
    · have := hown.kept hg67 (.inr (fun e => hgs.1 (by cases e; rfl)))
      show World.ownsRow _ _ _ _ _ _ _
      rw [List.map_append, List.length_append]
      exact this
    · rw [← hW7]
      exact (World.frozen?_setCell _ _ _ _).trans (hfr6 j)
  · go_wp2
    go_end0
    refine ⟨⟨_, rfl⟩, ⟨wv, ?_⟩, Below.refl _ _⟩
    have hne : needC v (nd, wt) = (nd, wt) := by
      unfold needC
      rw [if_pos]
      exact hHB.out
    rw [hne]
    exact HSI.out

end Go.Proofs.Ytlaljeobdddegaa
