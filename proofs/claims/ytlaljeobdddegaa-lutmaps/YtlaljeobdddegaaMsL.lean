import Derived.Test.YtlaljeobdddegaaMsK
import Derived.Test.YtlaljeobdddegaaAgJ
namespace Go.Proofs.Ytlaljeobdddegaa
open Go.ChangeShapes Go.WideShapes Go.ChangeAt Go.RowKit

section
variable {H : Type} {enc : TypeId × Value → H} {w : World} {base : Nat} {spare : Nat → Bool} {held : Bool} {fuel : Nat}

theorem cSB : Try.prog.cellsOf 30 = 1 := by kernel_rfl
theorem bSB : Try.prog.bytesOf 30 = 24 := by kernel_rfl
theorem bool_el {cs : List Value} {y : DataW H × List MemPlace} (h : DataW.trod enc Try.prog w base spare held fuel 4 cs = some y) : ∃ x : Bool, cs = bC x ∧ True := by
  obtain ⟨n, hc, -⟩ := DataW.trod_bool Try.underlying4 h
  exact ⟨n, hc, trivial⟩
theorem tr_el {cs : List Value} {y : DataW H × List MemPlace} (h : DataW.trod enc Try.prog w base spare held fuel 30 cs = some y) : ∃ x : TR, cs = x.cells ∧ RowAt w.heap.size w x.a 1 (x.l.map bC) := by
  obtain ⟨v, rfl⟩ : ∃ v, cs = [v] := by
    rcases DataW.trod_slice Try.underlying30 h with ⟨rfl, _⟩ | ⟨a, len, cap, elems, rest, n, _, rfl, _⟩
    · exact ⟨_, rfl⟩
    · exact ⟨_, rfl⟩
  obtain ⟨a, c, l, rfl, hr, -⟩ := open_row bC (fun _ _ => True) Try.underlying30 cB (by decide) (fun fuel cs y h => bool_el h) h
  exact ⟨⟨a, c, l⟩, rfl, hr⟩
/-- what a trace that comes in is in memory -/
theorem open_trace {y : DataW H × List MemPlace} {v : Value} (h : DataW.trod enc Try.prog w base spare held fuel 27 [v] = some y) (hf : Fine 27 y.1) : ∃ a c trs, v = .slice a (List.length trs) c ∧ TrAt w.heap.size w a trs := by
  obtain ⟨a, c, l, rfl, hr, hd⟩ := open_row TR.cells (fun _ x => RowAt w.heap.size w x.a 1 (x.l.map bC)) Try.underlying27 cSB (by decide) (fun fuel cs y h => tr_el h) h
  refine ⟨a, c, l, rfl, hr, ?_, ?_⟩
  · rcases hd with ⟨_, rfl⟩ | ⟨elems, sp, _, _, hq⟩
    · intro t ht; cases ht
    · intro t ht
      obtain ⟨i, hi, rfl⟩ := List.getElem_of_mem ht
      obtain ⟨d, _, hQ⟩ := hq i _ (List.getElem?_eq_getElem hi)
      exact hQ
  · rcases hd with ⟨_, rfl⟩ | ⟨elems, sp, he, hl, _⟩
    · simp
    · rw [he] at hf
      have h1 := (fine_slice Try.underlying27 hf).1
      rw [bSB] at h1
      simp only [reachBytes] at h1
      omega
end

theorem trace_of {H : Type} {enc : TypeId × Value → H} {W : World} {v : Value} {d : DataW H} {p : List MemPlace} (h : DataW.Trod enc Try.prog W 0 (fun _ => true) true 27 v d p) (hf : Fine 27 d) (hv : v.cells.toList = [v]) :
    ∃ a c trs, v = .slice a (List.length trs) c ∧ TrAt W.heap.size W a trs := by
  obtain ⟨fuel, ht⟩ := h
  rw [hv] at ht
  exact open_trace ht hf

set_option maxRecDepth 100000 in
theorem maps_lifted (os : Os) (started : os.Started) (H : Type) (enc : TypeId × Value → H) :
    ReturnsInHanded {} Try.checked os 3 .any (Rows.lutMapsSpec.pre6 enc Try.prog Try.f3 Rows.lutMapsRow.domain false) (Rows.lutMapsSpec.post enc Try.prog Try.f3 false true false false) := by
  refine returnsInHanded_of_change_sized (C := Try.checked) Try.own started (by kernel_rfl) Try.func3
    (ChangeSpec.witness6 (enc := enc) (C := Try.checked) false ⟨#[], #[.agg #[.int .i64 0, .slice none 0 0, .slice none 0 0, .slice none 0 0], .slice none 0 0], []⟩ 8 (by kernel_rfl) (by kernel_rfl) (by kernel_rfl) (by kernel_rfl)) ?_
  intro W base args ds gs before hval0 hW _ hsz0 _
  have hsz : (DataW.weightsEach Try.prog (Try.f3.params.toList ++ Rows.lutMapsSpec.plain.varTypes Try.prog) (ds ++ gs)).all (· ≤ reachBytes) = true := hsz0
  clear hsz0
  have hval : ∀ (j : Nat) t v, Try.f3.params[j]? = some t → args[j]? = some v → Value.okWide Try.prog W .any base t v := hval0
  have hW' := hW
  obtain ⟨p, q, hA0, hV, rfl, _, _⟩ := hW
  have hA : DataW.TrodAll enc Try.prog W 0 (fun _ => true) true Try.f3.params.toList args.toList ds p := hA0
  rw [Try.params3] at hA hval hsz
  obtain ⟨v0, v1, d0, d1, p0, p1, rfl, rfl, rfl, h0, h1⟩ := trodAll_two hA
  obtain ⟨rfl, rfl⟩ := trodVars_none hV
  have hf0 : Fine 26 d0 := fun n hn => by
    have := List.all_eq_true.1 hsz n (DataW.weights_mem_each (j := 0) (t := 26) (d := d0) rfl rfl n hn)
    simpa using this
  have hf1 : Fine 27 d1 := fun n hn => by
    have := List.all_eq_true.1 hsz n (DataW.weights_mem_each (j := 1) (t := 27) (d := d1) rfl rfl n hn)
    simpa using this
  obtain ⟨S, G, rfl, hn⟩ := graph_of (hval 0 26 v0 rfl rfl) h0 hf0
  have hv1 : v1.cells.toList = [v1] := by
    obtain ⟨a, ln, cp, rfl⟩ := okWide_slice Try.underlying27 (hval 1 27 v1 rfl rfl)
    rfl
  obtain ⟨ta, tc, trs, rfl, ht⟩ := trace_of h1 hf1 hv1
  clear hA0 hval0
  simp only [List.append_nil] at hW'
  have hlt : ∀ x ∈ p0 ++ p1, x.block < W.heap.size := fun x hx => by simpa using hW'.lt x hx
  refine (law_maps W.heap.size W S G hn (Nat.le_refl _) ta tc trs ht).mono ?_
  rintro e W' ⟨rfl, bel⟩
  have e1 : Rows.lutMapsSpec.fn H ([d0, d1] ++ []) = { results := [.lit (.bool true)], args := [d0, d1] } := rfl
  refine ⟨_, rfl, _, _, _, [], p0 ++ p1, [], hW', ?_, ?_, ?_, bel.frame _, fun h => by cases h⟩
  · rw [e1]; exact trodAll_mk1 (shut_bool Try.underlying4 _)
  · rw [e1]; exact trodAll_mk2 (Below.trod Try.laidOut (by kernel_rfl) (of_decide_eq_true (by kernel_rfl)) h0 bel (fun x hx => hlt x (List.mem_append.2 (.inl hx)))) (Below.trod Try.laidOut (by kernel_rfl) (of_decide_eq_true (by kernel_rfl)) h1 bel (fun x hx => hlt x (List.mem_append.2 (.inr hx))))
  · rw [e1]; rfl

theorem lutMaps_holds : Rows.LutMapsSaid :=
  OpenClaim.holds_of_wide 3 Try.f3 rfl rfl rfl rfl rfl rfl rfl ⟨rfl, rfl, rfl, rfl, rfl⟩ rfl rfl rfl rfl rfl (by kernel_rfl) Try.func3 (by kernel_rfl)
    (of_decide_eq_true (by kernel_rfl)) (by unfold Func.isWrapper; first | (rw [if_pos (by decide +kernel)]; kernel_rfl) | (rw [if_neg (by decide +kernel)]; exact ⟨rfl, rfl⟩))
    (fun os started H enc _ => maps_lifted os started H enc)

end Go.Proofs.Ytlaljeobdddegaa
