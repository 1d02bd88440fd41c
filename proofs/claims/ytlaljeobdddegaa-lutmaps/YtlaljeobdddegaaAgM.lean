import Derived.Test.YtlaljeobdddegaaAgLa
namespace Go.Proofs.Ytlaljeobdddegaa
open Go.RowKit

def inRow (n : Nat) (row : List Bool) : List Bool := (List.range n).map fun i => row[i]?.getD false
def andsN (v : List Bool) (l : List AndD) : List Bool := l.foldl (fun v d => v ++ [litV v d.x && litV v d.y]) v
/-- what the variables are worth in a cycle -/
def cycN (G : GrD) (row st : List Bool) : List Bool := andsN ([false] ++ inRow G.ins.toNat row ++ st) G.ands
def initN (G : GrD) : List Bool := G.lats.map LatD.init
def outN (G : GrD) (v : List Bool) : List Bool := G.outs.map (litV v)
def nextN (G : GrD) (v : List Bool) : List Bool := G.lats.map fun d => litV v d.next
def stN (G : GrD) (st : List Bool) (tr : List (List Bool)) : List Bool := tr.foldl (fun st r => nextN G (cycN G r st)) st
def runN (G : GrD) : List (List Bool) → List Bool → List (List Bool)
  | [], _ => []
  | r :: t, st => outN G (cycN G r st) :: runN G t (nextN G (cycN G r st))
theorem run_snoc (G : GrD) (l : List (List Bool)) (r : List Bool) (st : List Bool) : runN G (l ++ [r]) st = runN G l st ++ [outN G (cycN G r (stN G st l))] := by
  induction l generalizing st with
  | nil => rfl
  | cons a t ih => simp only [List.cons_append, runN, ih]; rfl
theorem st_snoc (G : GrD) (l : List (List Bool)) (r : List Bool) (st : List Bool) : stN G st (l ++ [r]) = nextN G (cycN G r (stN G st l)) := by
  unfold stN; rw [List.foldl_append]; rfl
theorem run_length (G : GrD) (l : List (List Bool)) (st : List Bool) : (runN G l st).length = l.length := by
  induction l generalizing st with
  | nil => rfl
  | cons a t ih => simp only [runN, List.length_cons, ih]
theorem ands_length (v : List Bool) (l : List AndD) : (andsN v l).length = v.length + l.length := by
  induction l generalizing v with
  | nil => rfl
  | cons a t ih => unfold andsN at *; rw [List.foldl_cons, ih]; simp; omega
theorem ands_snoc (v : List Bool) (l : List AndD) (d : AndD) : andsN v (l ++ [d]) = andsN v l ++ [litV (andsN v l) d.x && litV (andsN v l) d.y] := by
  unfold andsN; rw [List.foldl_append]; rfl
theorem inRow_length (n : Nat) (row : List Bool) : (inRow n row).length = n := by unfold inRow; simp
theorem inRow_next (n : Nat) (row : List Bool) : inRow (n + 1) row = inRow n row ++ [row[n]?.getD false] := by unfold inRow; rw [List.range_succ, List.map_append]; rfl
theorem cyc_length (G : GrD) (row st : List Bool) : (cycN G row st).length = 1 + G.ins.toNat + st.length + G.ands.length := by
  unfold cycN; rw [ands_length]; simp [inRow_length]; omega
theorem st_length (G : GrD) (tr : List (List Bool)) (st : List Bool) (h : st.length = G.lats.length) : (stN G st tr).length = G.lats.length := by
  induction tr generalizing st with
  | nil => exact h
  | cons a t ih => exact ih (nextN G (cycN G a st)) (by unfold nextN; simp)

/-- a slice of booleans -/
def BS (w : World) (v : Value) (l : List Bool) : Prop := (v = .slice none 0 0 ∧ l = []) ∨ ∃ b o c, v = .slice (some ⟨b, o, none⟩) l.length c ∧ b < w.heap.size ∧ ∀ (i : Nat) (x : Bool), l[i]? = some x → w.cell? ⟨b, o + i, none⟩ = some (.bool x)
theorem BS.to {w w' : World} {v : Value} {l : List Bool} (h : BS w v l) (hb : Below w.heap.size w w') : BS w' v l := by
  rcases h with h | ⟨b, o, c, hv, hlt, hc⟩
  · exact .inl h
  · exact .inr ⟨b, o, c, hv, Nat.lt_of_lt_of_le hlt hb.size, fun i x hx => (hb.cell (p := ⟨b, o + i, none⟩) hlt).trans (hc i x hx)⟩
theorem BS.of {w : World} {C n : Nat} {v : Value} {l : List Bool} (h : w.ownsRow C 4 1 v n (l.map bV)) : BS w v l := by
  have hl : n = l.length := by have := h.1; simp at this; omega
  rcases h.2 with ⟨h0, h1⟩ | ⟨g, cap, cur, hv, h1⟩
  · exact .inl ⟨h0, List.eq_nil_of_length_eq_zero (by omega)⟩
  · refine .inr ⟨g, 0, cap, by rw [hv, hl], (h.lt g (by rw [hv]; rfl)).2, fun i x hx => ?_⟩
    have := h.cells (g := g) (by rw [hv]; rfl) i (.bool x) (by rw [List.getElem?_map, hx]; rfl)
    rw [add0] at this
    simpa using this
theorem BS.row {w : World} {v : Value} {l : List Bool} (h : BS w v l) : ∃ a c, v = .slice a l.length c ∧ RowAt w.heap.size w a 1 (l.map bC) := by
  rcases h with ⟨rfl, rfl⟩ | ⟨b, o, c, hv, hlt, hc⟩
  · exact ⟨none, 0, rfl, rowAt_nil⟩
  · refine ⟨_, c, hv, fun _ => ⟨b, o, rfl, hlt, fun i cs hi j x hx => ?_⟩⟩
    rw [List.getElem?_map] at hi
    cases hy : l[i]? with
    | none => rw [hy] at hi; cases hi
    | some y =>
      rw [hy] at hi
      have e : [Value.bool y] = cs := by simpa [bC] using hi
      subst e
      cases j with
      | succ j => simp at hx
      | zero =>
        have ex : Value.bool y = x := by simpa using hx
        subst ex
        simpa using hc i y hy

set_option maxRecDepth 100000 in
set_option maxHeartbeats 4000000 in
theorem states_any (B : Nat) (w : World) (S : GrS) (G : GrD) (h : GrAt B w S G) (hB : B ≤ w.heap.size) :
    Calls Try.prog 10 #[.agg (S.cells G)] w fun e w' => ∃ v, e = .returned v ∧ w'.ownsRow w.heap.size 4 1 v G.lats.length ((initN G).map bV) ∧ Below w.heap.size w w' := by
  have hlen := h.ll
  simp only [big] at hlen
  unfold GrS.cells
  obtain ⟨ib, hib, hzb, hsb, hbb⟩ := info_bool
  have HI := hidden hib
  have HZ := hidden hzb
  have HS := hidden hsb
  have HBY := hidden hbb
  clear hib hzb hsb hbb
  go_enter Try.func10, Try.ntmps10
  go_wp2_with fail
  generalize hW : World.alloc w _ = W
  have HB : Hid (Below w.heap.size w W) := by rw [← hW]; exact (Below.refl _ _).alloc (Nat.le_refl _) _
  have hN : w.heap.size < W.heap.size := by rw [← hW]; simp
  have HX : Hid (BoxAt W w.heap.size S G) := by
    rw [← hW]
    exact ⟨by simp, by simp, by simp, by simp, by simp⟩
  have HAW : Hid (GrAt B W S G) := h.to (HB.out.mono hB)
  have hBW : B ≤ W.heap.size := Nat.le_trans hB HB.out.size
  clear hW h
  go_loopw [3, 4] (fun v i' w' => ∃ (k : Nat), k ≤ G.lats.length ∧ i' = .int .i64 k ∧ Hid (w'.ownsRow W.heap.size 4 1 v k (((G.lats.take k).map LatD.init).map bV)) ∧ Hid (Below W.heap.size W w')) (fun _ i' _ => G.lats.length - (intOf i').toNat)
  case atStart => exact ⟨0, Nat.zero_le _, rfl, World.ownsRow_nil _ _ _ _, Below.refl _ _⟩
  case round =>
    obtain ⟨k, hk, rfl, HO, HBr⟩ := hrel
    have q1R := (HBr.out.cell (p := ⟨w.heap.size, 1, none⟩) hN).trans HX.out.c1
    by_cases hlt : k < G.lats.length
    · obtain ⟨z, hz⟩ := getElem_lt hlt
      obtain ⟨rb, ro, ea, hrb, hrc⟩ := HAW.out.l.el hz
      have c1 := (HBr.out.cell (p := ⟨rb, ro + k * 2 + 1, none⟩) (Nat.lt_of_lt_of_le hrb hBW)).trans (hrc 1 _ rfl)
      rw [ea] at q1R
      have HNX : Hid (((G.lats.take (k + 1)).map LatD.init).map bV = ((G.lats.take k).map LatD.init).map bV ++ [.bool z.init]) := by
        show _ = _
        rw [take_next _ k z hz, List.map_append, List.map_append]; rfl
      generalize z.init = x at *
      have hltI : (k : Int) < (G.lats.length : Int) := by omega
      have e3 : IntKind.i64.wrap ((k : Int) + 1) = (k : Int) + 1 := wrapI _ (by omega) (by omega)
      have hm1 : k + 1 ≤ maxLen := by simp only [maxLen]; omega
      have hm2 : (k + 1) * 1 ≤ 140737488355328 := by omega
      have hsz := HBr.out.size
      have hm3 : W.heap.size ≤ (wr.alloc (.cells #[.bool x] 4)).heap.size := by simp; omega
      clear hrc ea hz hrb
      have tok : True := trivial
      go_wp2_with (have _t := tok; at_builtin; (refine wpList_append_lies _ rfl (.tmp 12) (.tmp 19) 30 rfl W.heap.size 4 ib _ 1 1 Try.underlying30 HI.out HZ.out HS.out HBY.out rfl (by decide) u3 k _ rfl (HO.out.alloc _) ⟨wr.heap.size, 0, none⟩ 1 1 [.bool x] rfl rfl (World.news_of_block (heap_new _ _)) (by simp [Value.oneCell']) (by decide) hm1 hm2 hm3 _ rfl ?_; intro g cap w5 hown hgrow hat5 hlt5; clear tok))
      have HO5 : Hid (w5.ownsRow W.heap.size 4 1 (.slice (some ⟨g, 0, none⟩) (k + 1) cap) (k + 1) (((G.lats.take (k + 1)).map LatD.init).map bV)) := by
        show World.ownsRow _ _ _ _ _ _ _
        rw [HNX.out]
        exact hown
      have HB5 : Hid (Below W.heap.size W w5) := grown_plain HBr.out HO.out hgrow
      clear hown hgrow hat5 hlt5 hm1 hm2 hm3 HO HBr HNX
      go_wp2
      go_roundw
      case measure => simp [intOf]; omega
      case rel => exact ⟨k + 1, by omega, by simp, HO5.out, HB5.out⟩
    · have hge : ¬ ((k : Int) < (G.lats.length : Int)) := by omega
      have HO6 : Hid (wr.ownsRow W.heap.size 4 1 u3 G.lats.length ((initN G).map bV)) := by
        have := HO.out
        rw [List.take_of_length_le (by omega), show k = G.lats.length by omega] at this
        exact this
      clear HO
      go_wp2
      go_ret
      exact ⟨_, rfl, own_mono HO6.out HB.out.size, HB.out.trans (HBr.out.mono HB.out.size)⟩

end Go.Proofs.Ytlaljeobdddegaa
