import Derived.Test.YtcmfiamejncboaaLrQ
import Derived.Test.YtcmfiamejncboaaLuH
namespace Go.Proofs.Ytcmfiamejncboaa
open Go.ChangeShapes Go.WideShapes Go.ChangeAt Go.RowKit

section
variable {H : Type} {enc : TypeId × Value → H} {w : World} {base : Nat} {spare : Nat → Bool} {held : Bool} {fuel : Nat}

theorem cSB : Try.prog.cellsOf 22 = 1 := by kernel_rfl
theorem bSB : Try.prog.bytesOf 22 = 24 := by kernel_rfl
theorem slice_nil {t e : TypeId} {a : Option Addr} {n c : Nat} {y : DataW H × List MemPlace} (ht : Try.prog.underlying t = some (.slice e)) (h : DataW.trod enc Try.prog w base spare held fuel t [.slice a n c] = some y) : a = none → c = 0 ∧ n = 0 := by
  intro ha
  rcases Deep.open_slice ht h with ⟨hv, -⟩ | ⟨b, len, cap, m, k, D, Pl, hv, -⟩
  · simp only [List.cons.injEq, and_true, Value.slice.injEq] at hv
    exact ⟨hv.2.2, hv.2.1⟩
  · simp only [List.cons.injEq, and_true, Value.slice.injEq] at hv
    rw [ha] at hv
    cases hv.1
theorem open_more {y : DataW H × List MemPlace} {S : NtS} {N : NtD} (h : DataW.trod enc Try.prog w base spare held fuel 26 (NtS.cells S N).toList = some y) (hf : Fine 26 y.1) : (S.a1 = none → S.c1 = 0 ∧ N.init = []) ∧ N.tabs.length ≤ 4398046511104 := by
  obtain ⟨ys, m, rfl, hx, hlen, hyl, hel⟩ := DataW.trod_struct Try.underlying26 h
  match ys, hyl, hx, hel with
  | [y0, y1, y2, y3, y4], _, hx, hel =>
    rw [hx] at hf
    have e1 := hel 1 _ rfl
    have e1' : DataW.trod enc Try.prog w base spare held m 22 [.slice S.a1 N.init.length S.c1] = some y1 := by
      simpa [NtS.cells, cI, cSB] using e1
    have e2 := hel 2 _ rfl
    have e2' : DataW.trod enc Try.prog w base spare held m 23 [.slice S.a2 N.tabs.length S.c2] = some y2 := by
      have hc : Try.prog.cellsOf 23 = 1 := by kernel_rfl
      simpa [NtS.cells, cI, cSB, hc] using e2
    obtain ⟨a2, u2, l2, hv2, hr2, hd2⟩ := open_row TbD.cells (fun d x => RowAt w.heap.size w x.a 1 (x.ins.map intC) ∧ (Fine 34 d → x.ins.length < big)) Try.underlying23 cT (by decide) (fun fuel cs y h => tab_el h) e2'
    have g2 := (len_of' 32 Try.underlying23 (by rw [bT]; decide) (fine_part Try.underlying26 hf (i := 2) rfl rfl) hd2).1
    have hl : N.tabs.length = l2.length := by
      simp only [Value.slice.injEq] at hv2
      exact hv2.2.1
    refine ⟨fun ha => ?_, by omega⟩
    have := slice_nil Try.underlying22 e1' ha
    exact ⟨this.1, List.eq_nil_of_length_eq_zero this.2⟩
theorem tr_el {cs : List Value} {y : DataW H × List MemPlace} (h : DataW.trod enc Try.prog w base spare held fuel 22 cs = some y) : ∃ x : TR, cs = x.cells ∧ RowAt w.heap.size w x.a 1 (x.l.map boolC) := by
  obtain ⟨v, rfl⟩ : ∃ v, cs = [v] := by
    rcases DataW.trod_slice Try.underlying22 h with ⟨rfl, _⟩ | ⟨a, len, cap, elems, rest, n, _, rfl, _⟩
    · exact ⟨_, rfl⟩
    · exact ⟨_, rfl⟩
  obtain ⟨a, c, l, rfl, hr, -⟩ := open_row boolC (fun _ _ => True) Try.underlying22 cB (by decide) (fun fuel cs y h => bool_el h) h
  exact ⟨⟨a, c, l⟩, rfl, hr⟩
/-- what a trace that comes in is in memory -/
theorem open_trace {y : DataW H × List MemPlace} {v : Value} (h : DataW.trod enc Try.prog w base spare held fuel 29 [v] = some y) (hf : Fine 29 y.1) : ∃ a c trs, v = .slice a (List.length trs) c ∧ TrAt w.heap.size w a trs := by
  obtain ⟨a, c, l, rfl, hr, hd⟩ := open_row TR.cells (fun _ x => RowAt w.heap.size w x.a 1 (x.l.map boolC)) Try.underlying29 cSB (by decide) (fun fuel cs y h => tr_el h) h
  refine ⟨a, c, l, rfl, hr, ?_, ?_⟩
  · rcases hd with ⟨_, rfl⟩ | ⟨elems, sp, _, _, hq⟩
    · intro t ht; cases ht
    · intro t ht
      obtain ⟨i, hi, rfl⟩ := List.getElem_of_mem ht
      obtain ⟨d, _, hQ⟩ := hq i _ (List.getElem?_eq_getElem hi)
      exact hQ
  · rcases hd with ⟨_, rfl⟩ | ⟨elems, sp, he, hl, _⟩
    · simp
    · rw [he] at hf
      have h1 := (fine_slice Try.underlying29 hf).1
      rw [bSB] at h1
      simp only [reachBytes] at h1
      omega
end

theorem net_more {H : Type} {enc : TypeId × Value → H} {W : World} {S : NtS} {N : NtD} {d : DataW H} {p : List MemPlace} (h : DataW.Trod enc Try.prog W 0 (fun _ => true) true 26 (.agg (NtS.cells S N)) d p) (hf : Fine 26 d) : (S.a1 = none → S.c1 = 0 ∧ N.init = []) ∧ N.tabs.length ≤ 4398046511104 := by
  obtain ⟨fuel, ht⟩ := h
  exact open_more ht hf

theorem trace_of {H : Type} {enc : TypeId × Value → H} {W : World} {v : Value} {d : DataW H} {p : List MemPlace} (h : DataW.Trod enc Try.prog W 0 (fun _ => true) true 29 v d p) (hf : Fine 29 d) (hv : v.cells.toList = [v]) :
    ∃ a c trs, v = .slice a (List.length trs) c ∧ TrAt W.heap.size W a trs := by
  obtain ⟨fuel, ht⟩ := h
  rw [hv] at ht
  exact open_trace ht hf

set_option maxRecDepth 100000 in
theorem runs_lifted (os : Os) (started : os.Started) (H : Type) (enc : TypeId × Value → H) :
    ReturnsInHanded {} Try.checked os 4 .any (Rows.lutRunsSpec.pre6 enc Try.prog Try.f4 Rows.lutRunsRow.domain false) (Rows.lutRunsSpec.post enc Try.prog Try.f4 false true false false) := by
  refine returnsInHanded_of_change_sized (C := Try.checked) Try.own started (by kernel_rfl) Try.func4
    (ChangeSpec.witness6 (enc := enc) (C := Try.checked) false ⟨#[], #[.agg #[.int .i64 0, .slice none 0 0, .slice none 0 0, .slice none 0 0, .slice none 0 0], .slice none 0 0], []⟩ 8 (by kernel_rfl) (by kernel_rfl) (by kernel_rfl) (by kernel_rfl)) ?_
  intro W base args ds gs before hval0 hW _ hsz0 _
  have hsz : (DataW.weightsEach Try.prog (Try.f4.params.toList ++ Rows.lutRunsSpec.plain.varTypes Try.prog) (ds ++ gs)).all (· ≤ reachBytes) = true := hsz0
  clear hsz0
  have hval : ∀ (j : Nat) t v, Try.f4.params[j]? = some t → args[j]? = some v → Value.okWide Try.prog W .any base t v := hval0
  have hW' := hW
  obtain ⟨p, q, hA0, hV, rfl, _, _⟩ := hW
  have hA : DataW.TrodAll enc Try.prog W 0 (fun _ => true) true Try.f4.params.toList args.toList ds p := hA0
  rw [Try.params4] at hA hval hsz
  obtain ⟨v0, v1, d0, d1, p0, p1, rfl, rfl, rfl, h0, h1⟩ := trodAll_two hA
  obtain ⟨rfl, rfl⟩ := trodVars_none hV
  have hf0 : Fine 26 d0 := fun n hn => by
    have := List.all_eq_true.1 hsz n (DataW.weights_mem_each (j := 0) (t := 26) (d := d0) rfl rfl n hn)
    simpa using this
  have hf1 : Fine 29 d1 := fun n hn => by
    have := List.all_eq_true.1 hsz n (DataW.weights_mem_each (j := 1) (t := 29) (d := d1) rfl rfl n hn)
    simpa using this
  obtain ⟨S, G, rfl, hn⟩ := net_of (hval 0 26 v0 rfl rfl) h0 hf0
  have hmore := net_more h0 hf0
  have hv1 : v1.cells.toList = [v1] := by
    obtain ⟨a, ln, cp, rfl⟩ := okWide_slice Try.underlying29 (hval 1 29 v1 rfl rfl)
    rfl
  obtain ⟨ta, tc, trs, rfl, ht⟩ := trace_of h1 hf1 hv1
  clear hA0 hval0
  simp only [List.append_nil] at hW'
  have hlt : ∀ x ∈ p0 ++ p1, x.block < W.heap.size := fun x hx => by simpa using hW'.lt x hx
  refine (law_runs W.heap.size W S G hn (Nat.le_refl _) hmore.2 hmore.1 ta tc trs ht).mono ?_
  rintro e W' ⟨rfl, bel⟩
  have e1 : Rows.lutRunsSpec.fn H ([d0, d1] ++ []) = { results := [.lit (.bool true)], args := [d0, d1] } := rfl
  refine ⟨_, rfl, _, _, _, [], p0 ++ p1, [], hW', ?_, ?_, ?_, bel.frame _, fun h => by cases h⟩
  · rw [e1]; exact trodAll_mk1 (shut_bool Try.underlying4 _)
  · rw [e1]; exact trodAll_mk2 (Below.trod Try.laidOut (by kernel_rfl) (of_decide_eq_true (by kernel_rfl)) h0 bel (fun x hx => hlt x (List.mem_append.2 (.inl hx)))) (Below.trod Try.laidOut (by kernel_rfl) (of_decide_eq_true (by kernel_rfl)) h1 bel (fun x hx => hlt x (List.mem_append.2 (.inr hx))))
  · rw [e1]; rfl

theorem lutRuns_holds : Rows.LutRunsSaid :=
  OpenClaim.holds_of_wide 4 Try.f4 rfl rfl rfl rfl rfl rfl rfl ⟨rfl, rfl, rfl, rfl, rfl⟩ rfl rfl rfl rfl rfl (by kernel_rfl) Try.func4 (by kernel_rfl)
    (of_decide_eq_true (by kernel_rfl)) (by unfold Func.isWrapper; first | (rw [if_pos (by decide +kernel)]; kernel_rfl) | (rw [if_neg (by decide +kernel)]; exact ⟨rfl, rfl⟩))
    (fun os started H enc _ => runs_lifted os started H enc)

end Go.Proofs.Ytcmfiamejncboaa
