import Derived.Test.YtlkhmcajedjojaaJ52
import Derived.Test.YtlkhmcajedjojaaJ54
namespace Go.Proofs.Ytlkhmcajedjojaa
open Go.ChangeShapes Go.WideShapes Go.ChangeAt Go.RowKit

section
variable {H : Type} {enc : TypeId × Value → H} {w : World} {base : Nat} {spare : Nat → Bool} {held : Bool} {fuel : Nat}

theorem mems_len {y : DataW H × List MemPlace} {S : NetS} {N : NetD} (h : DataW.trod enc Try.prog w base spare held fuel 28 (NetS.cells S N).toList = some y) (hf : Fine 28 y.1) : N.mems.length ≤ 8796093022208 := by
  obtain ⟨ys, m, rfl, hx, hlen, hyl, hel⟩ := DataW.trod_struct Try.underlying28 h
  match ys, hyl, hx, hel with
  | [y0, y1, y2, y3, y4, y5], _, hx, hel =>
    rw [hx] at hf
    have e3 := hel 3 _ rfl
    have e3' : DataW.trod enc Try.prog w base spare held m 25 [.slice S.a3 N.mems.length S.c3] = some y3 := by
      have hc : Try.prog.cellsOf 25 = 1 := by kernel_rfl
      simpa [hc, NetS.cells] using e3
    obtain ⟨a3, u3, l3, hv, hr3, hd3⟩ := open_row MemD.cells (fun _ _ => True) Try.underlying25 c46 (by decide) (fun fuel cs y h => mem_el h) e3'
    have hl : N.mems.length = l3.length := by injection hv
    have hf3 : Fine 25 y3.1 := fine_part Try.underlying28 hf (i := 3) rfl rfl
    rcases hd3 with ⟨_, rfl⟩ | ⟨elems, sp, he, hn, _⟩
    · rw [hl]; simp
    · rw [he] at hf3
      have h1 := (fine_slice Try.underlying25 hf3).1
      rw [b46] at h1
      simp only [reachBytes] at h1
      omega

theorem cSU : Try.prog.cellsOf 34 = 1 := by kernel_rfl
theorem bSU : Try.prog.bytesOf 34 = 24 := by kernel_rfl
theorem cU : Try.prog.cellsOf 33 = 1 := by kernel_rfl
theorem bU : Try.prog.bytesOf 33 = 8 := by kernel_rfl
theorem word_el {cs : List Value} {y : DataW H × List MemPlace} (h : DataW.trod enc Try.prog w base spare held fuel 33 cs = some y) : ∃ x : Nat, cs = uN x ∧ x < 18446744073709551616 := by
  obtain ⟨n, hc, -, wf⟩ := DataW.trod_int Try.underlying33 h
  have hw := wf_u wf
  refine ⟨n.toNat, ?_, by omega⟩
  rw [hc, uN, Int.toNat_of_nonneg hw.1]
theorem tr_el {cs : List Value} {y : DataW H × List MemPlace} (h : DataW.trod enc Try.prog w base spare held fuel 34 cs = some y) : ∃ x : MD, cs = x.cells ∧ (RowAt w.heap.size w x.a 1 (x.l.map uN) ∧ (∀ n, n ∈ x.l → n < 18446744073709551616) ∧ (Fine 34 y.1 → x.l.length < big)) := by
  obtain ⟨v, rfl⟩ : ∃ v, cs = [v] := by
    rcases DataW.trod_slice Try.underlying34 h with ⟨rfl, _⟩ | ⟨a, len, cap, elems, rest, n, _, rfl, _⟩
    · exact ⟨_, rfl⟩
    · exact ⟨_, rfl⟩
  obtain ⟨a, c, l, rfl, hr, hd⟩ := open_row uN (fun _ n => n < 18446744073709551616) Try.underlying34 cU (by decide) (fun fuel cs y h => word_el h) h
  refine ⟨⟨a, c, l⟩, rfl, hr, ?_, fun hf => (len_of Try.underlying34 (by rw [bU]; decide) hf hd).1⟩
  rcases hd with ⟨_, rfl⟩ | ⟨elems, sp, _, _, hq⟩
  · intro t ht; cases ht
  · intro t ht
    obtain ⟨i, hi, rfl⟩ := List.getElem_of_mem ht
    obtain ⟨d, _, hQ⟩ := hq i _ (List.getElem?_eq_getElem hi)
    exact hQ
/-- what a trace that comes in is in memory -/
theorem open_trace {y : DataW H × List MemPlace} {v : Value} (h : DataW.trod enc Try.prog w base spare held fuel 31 [v] = some y) (hf : Fine 31 y.1) : ∃ a c trs, v = .slice a (List.length trs) c ∧ TrW w.heap.size w a trs := by
  obtain ⟨a, c, l, rfl, hr, hd⟩ := open_row MD.cells (fun d x => RowAt w.heap.size w x.a 1 (x.l.map uN) ∧ (∀ n, n ∈ x.l → n < 18446744073709551616) ∧ (Fine 34 d → x.l.length < big)) Try.underlying31 cSU (by decide) (fun fuel cs y h => tr_el h) h
  have g := len_of Try.underlying31 (by rw [bSU]; decide) hf hd
  refine ⟨a, c, l, rfl, hr, fun t ht => ?_, ?_⟩
  · obtain ⟨d, hfd, q1, q2, q3⟩ := g.2 t ht
    exact ⟨q1, q3 hfd, q2⟩
  · rcases hd with ⟨_, rfl⟩ | ⟨elems, sp, he, hl, _⟩
    · simp
    · rw [he] at hf
      have h1 := (fine_slice Try.underlying31 hf).1
      rw [bSU] at h1
      simp only [reachBytes] at h1
      omega
end

theorem trace_of {H : Type} {enc : TypeId × Value → H} {W : World} {v : Value} {d : DataW H} {p : List MemPlace} (h : DataW.Trod enc Try.prog W 0 (fun _ => true) true 31 v d p) (hf : Fine 31 d) (hv : v.cells.toList = [v]) :
    ∃ a c trs, v = .slice a (List.length trs) c ∧ TrW W.heap.size W a trs := by
  obtain ⟨fuel, ht⟩ := h
  rw [hv] at ht
  exact open_trace ht hf

set_option maxRecDepth 100000 in
theorem runs_lifted (os : Os) (started : os.Started) (H : Type) (enc : TypeId × Value → H) :
    ReturnsInHanded {} Try.checked os 4 .any (Rows.wordRunsSpec.pre6 enc Try.prog Try.f4 Rows.wordRunsRow.domain false) (Rows.wordRunsSpec.post enc Try.prog Try.f4 false true false false) := by
  refine returnsInHanded_of_change_sized (C := Try.checked) Try.own started (by kernel_rfl) Try.func4
    (ChangeSpec.witness6 (enc := enc) (C := Try.checked) false ⟨#[], #[.agg #[.slice none 0 0, .slice none 0 0, .slice none 0 0, .slice none 0 0, .slice none 0 0, .slice none 0 0], .slice none 0 0], []⟩ 8 (by kernel_rfl) (by kernel_rfl) (by kernel_rfl) (by kernel_rfl)) ?_
  intro W base args ds gs before hval0 hW _ hsz0 _
  have hsz : (DataW.weightsEach Try.prog (Try.f4.params.toList ++ Rows.wordRunsSpec.plain.varTypes Try.prog) (ds ++ gs)).all (· ≤ reachBytes) = true := hsz0
  clear hsz0
  have hval : ∀ (j : Nat) t v, Try.f4.params[j]? = some t → args[j]? = some v → Value.okWide Try.prog W .any base t v := hval0
  have hW' := hW
  obtain ⟨p, q, hA0, hV, rfl, _, _⟩ := hW
  have hA : DataW.TrodAll enc Try.prog W 0 (fun _ => true) true Try.f4.params.toList args.toList ds p := hA0
  rw [Try.params4] at hA hval hsz
  obtain ⟨v0, v1, d0, d1, p0, p1, rfl, rfl, rfl, h0, h1⟩ := trodAll_two hA
  obtain ⟨rfl, rfl⟩ := trodVars_none hV
  have hf0 : Fine 28 d0 := fun n hn => by
    have := List.all_eq_true.1 hsz n (DataW.weights_mem_each (j := 0) (t := 28) (d := d0) rfl rfl n hn)
    simpa using this
  have hf1 : Fine 31 d1 := fun n hn => by
    have := List.all_eq_true.1 hsz n (DataW.weights_mem_each (j := 1) (t := 31) (d := d1) rfl rfl n hn)
    simpa using this
  obtain ⟨S, N, rfl, hn⟩ := net_of (hval 0 28 v0 rfl rfl) h0 hf0
  have hv1 : v1.cells.toList = [v1] := by
    obtain ⟨a, ln, cp, rfl⟩ := okWide_slice Try.underlying31 (hval 1 31 v1 rfl rfl)
    rfl
  have hml : N.mems.length ≤ 8796093022208 := by
    obtain ⟨fuel, ht⟩ := h0
    exact mems_len (S := S) (N := N) ht hf0
  obtain ⟨ta, tc, trs, rfl, ht⟩ := trace_of h1 hf1 hv1
  clear hA0 hval0
  simp only [List.append_nil] at hW'
  have hlt : ∀ x ∈ p0 ++ p1, x.block < W.heap.size := fun x hx => by simpa using hW'.lt x hx
  refine (law_runs W.heap.size W S N hn (Nat.le_refl _) hml ta tc trs ht).mono ?_
  rintro e W' ⟨rfl, bel⟩
  have e1 : Rows.wordRunsSpec.fn H ([d0, d1] ++ []) = { results := [.lit (.bool true)], args := [d0, d1] } := rfl
  refine ⟨_, rfl, _, _, _, [], p0 ++ p1, [], hW', ?_, ?_, ?_, bel.frame _, fun h => by cases h⟩
  · rw [e1]; exact trodAll_mk1 (shut_bool Try.underlying4 _)
  · rw [e1]; exact trodAll_mk2 (Below.trod Try.laidOut (by kernel_rfl) (of_decide_eq_true (by kernel_rfl)) h0 bel (fun x hx => hlt x (List.mem_append.2 (.inl hx)))) (Below.trod Try.laidOut (by kernel_rfl) (of_decide_eq_true (by kernel_rfl)) h1 bel (fun x hx => hlt x (List.mem_append.2 (.inr hx))))
  · rw [e1]; rfl

theorem wordRuns_holds : Rows.WordRunsSaid :=
  OpenClaim.holds_of_wide 4 Try.f4 rfl rfl rfl rfl rfl rfl rfl ⟨rfl, rfl, rfl, rfl, rfl⟩ rfl rfl rfl rfl rfl (by kernel_rfl) Try.func4 (by kernel_rfl)
    (of_decide_eq_true (by kernel_rfl)) (by unfold Func.isWrapper; first | (rw [if_pos (by decide +kernel)]; kernel_rfl) | (rw [if_neg (by decide +kernel)]; exact ⟨rfl, rfl⟩))
    (fun os started H enc _ => runs_lifted os started H enc)

end Go.Proofs.Ytlkhmcajedjojaa
