import Derived.Test.YtefjicdhccfieaaK01
import Derived.Test.YtefjicdhccfieaaRows
import Derived.Test.YtefjicdhccfieaaK53
import Derived.Test.YtefjicdhccfieaaK54
import Derived.Deep.CondSized
import Derived.Carry
set_option maxRecDepth 100000
set_option maxHeartbeats 16000000
namespace Go.Proofs.Ytefjicdhccfieaa
open Go.ChangeShapes Go.WideShapes Go.ChangeAt Go.RowKit
section
variable {H : Type} {enc : TypeId × Value → H} {w : World} {base : Nat} {spare : Nat → Bool} {held : Bool} {fuel : Nat}
theorem cSB : Try.prog.cellsOf 62 = 1 := by kernel_rfl
theorem bSB : Try.prog.bytesOf 62 = 24 := by kernel_rfl
theorem bool_el {cs : List Value} {y : DataW H × List MemPlace} (h : DataW.trod enc Try.prog w base spare held fuel 4 cs = some y) : ∃ x : Bool, cs = bC x ∧ True := by
 obtain ⟨n, hc, -⟩ := DataW.trod_bool Try.underlying4 h
 exact ⟨n, hc, trivial⟩
theorem trb_el {cs : List Value} {y : DataW H × List MemPlace} (h : DataW.trod enc Try.prog w base spare held fuel 62 cs = some y) : ∃ x : TR, cs = x.cells ∧ RowAt w.heap.size w x.a 1 (x.l.map bC) := by
 obtain ⟨v, rfl⟩ : ∃ v, cs = [v] := by
  rcases DataW.trod_slice Try.underlying62 h with ⟨rfl, _⟩ | ⟨a, len, cap, elems, rest, n, _, rfl, _⟩
  ·exact ⟨_, rfl⟩
  ·exact ⟨_, rfl⟩
 obtain ⟨a, c, l, rfl, hr, -⟩ := open_row bC (fun _ _ => True) Try.underlying62 cB (by decide) (fun fuel cs y h => bool_el h) h
 exact ⟨⟨a, c, l⟩, rfl, hr⟩
theorem open_trace {y : DataW H × List MemPlace} {v : Value} (h : DataW.trod enc Try.prog w base spare held fuel 37 [v] = some y) (hf : Fine 37 y.1) : ∃ a c trs, v = .slice a (List.length trs) c ∧ TrAt w.heap.size w a trs := by
 obtain ⟨a, c, l, rfl, hr, hd⟩ := open_row TR.cells (fun _ x => RowAt w.heap.size w x.a 1 (x.l.map bC)) Try.underlying37 cSB (by decide) (fun fuel cs y h => trb_el h) h
 refine ⟨a, c, l, rfl, hr, ?_, ?_⟩
 ·rcases hd with ⟨_, rfl⟩ | ⟨elems, sp, _, _, hq⟩
  ·intro t ht; cases ht
  ·intro t ht
   obtain ⟨i, hi, rfl⟩ := List.getElem_of_mem ht
   obtain ⟨d, _, hQ⟩ := hq i _ (List.getElem?_eq_getElem hi)
   exact hQ
 ·rcases hd with ⟨_, rfl⟩ | ⟨elems, sp, he, hl, _⟩
  ·simp
  ·rw [he] at hf
   have h1 := (fine_slice Try.underlying37 hf).1
   rw [bSB] at h1
   simp only [reachBytes] at h1
   omega
end
theorem trace_of {H : Type} {enc : TypeId × Value → H} {W : World} {v : Value} {d : DataW H} {p : List MemPlace} (h : DataW.Trod enc Try.prog W 0 (fun _ => true) true 37 v d p) (hf : Fine 37 d) (hv : v.cells.toList = [v]) :
  ∃ a c trs, v = .slice a (List.length trs) c ∧ TrAt W.heap.size W a trs := by
 obtain ⟨fuel, ht⟩ := h
 rw [hv] at ht
 exact open_trace ht hf
theorem sound_lifted (os : Os) (started : os.Started) (H : Type) (enc : TypeId × Value → H) (F : Stop.Interp) :
  ReturnsInHanded {} Try.checked os 6 .any ((Rows.OpenSpec.upto Rows.judgeSoundSpec).pre6 enc Try.prog Try.f6 Rows.judgeSoundUptoRow.domain false) (((Rows.OpenSpec.upto Rows.judgeSoundSpec).at F).post enc Try.prog Try.f6 false true false false) := by
 refine returnsInHanded_of_cond_sized (C := Try.checked) (s := Rows.OpenSpec.upto Rows.judgeSoundSpec) (k := Rows.uptoSmall) rfl Try.own started (by kernel_rfl) Try.func6
  (OpenSpec.witness (enc := enc) (C := Try.checked) (s := Rows.OpenSpec.upto Rows.judgeSoundSpec) (k := Rows.uptoSmall) rfl false ⟨#[], #[.agg #[.int .i64 0, .slice none 0 0, .slice none 0 0, .slice none 0 0], .agg #[.int .i64 0, .slice none 0 0, .slice none 0 0, .slice none 0 0], .agg #[.slice none 0 0, .slice none 0 0, .slice none 0 0, .slice none 0 0], .slice none 0 0], []⟩ 8 (by kernel_rfl) (by kernel_rfl) (by kernel_rfl)
   (x := ([.agg [.lit (.int .i64 0), .nil, .nil, .nil], .agg [.lit (.int .i64 0), .nil, .nil, .nil], .agg [.nil, .nil, .nil, .nil], .nil], [], [])) (by kernel_rfl) rfl (by kernel_rfl)) ?_
 intro W base args ds gs before hval0 hW _ hk hsz0 _
 have hsz : (DataW.weightsEach Try.prog (Try.f6.params.toList ++ (Rows.OpenSpec.upto Rows.judgeSoundSpec).bare.plain.varTypes Try.prog) (ds ++ gs)).all (· ≤ reachBytes) = true := hsz0
 clear hsz0
 have hval : ∀ (j : Nat) t v, Try.f6.params[j]? = some t → args[j]? = some v → Value.okWide Try.prog W .any base t v := hval0
 have hW' := hW
 obtain ⟨p, q, hA0, hV, rfl, _, _⟩ := hW
 have hA : DataW.TrodAll enc Try.prog W 0 (fun _ => true) true Try.f6.params.toList args.toList ds p := hA0
 rw [Try.params6] at hA hval hsz
 obtain ⟨v0, v1, v2, v3, d0, d1, d2, d3, p0, p1, p2, p3, rfl, rfl, rfl, h0, h1, h2, h3⟩ := trodAll_four hA
 obtain ⟨rfl, rfl⟩ := trodVars_none hV
 have hb : Rows.uptoBulk d2 ≤ 1048576 := by
  have hk' := of_decide_eq_true hk
  simp only [List.append_nil, Rows.uptoBulkAll] at hk'
  omega
 have hf0 : Fine 30 d0 := fun n hn => by
  have := List.all_eq_true.1 hsz n (DataW.weights_mem_each (j := 0) (t := 30) (d := d0) rfl rfl n hn)
  simpa using this
 have hf1 : Fine 30 d1 := fun n hn => by
  have := List.all_eq_true.1 hsz n (DataW.weights_mem_each (j := 1) (t := 30) (d := d1) rfl rfl n hn)
  simpa using this
 have hf3 : Fine 37 d3 := fun n hn => by
  have := List.all_eq_true.1 hsz n (DataW.weights_mem_each (j := 3) (t := 37) (d := d3) rfl rfl n hn)
  simpa using this
 obtain ⟨SA, A, rfl, hnA⟩ := graph_of (hval 0 30 v0 rfl rfl) h0 hf0
 obtain ⟨SB, B, rfl, hnB⟩ := graph_of (hval 1 30 v1 rfl rfl) h1 hf1
 obtain ⟨xa, xc, prs, ba, bc, bcl, sa, sc, scl, oa, oc, ocl, rfl, ⟨hR, hpn⟩, ⟨q1, r1⟩, ⟨q2, r2⟩, ⟨q3, r3⟩⟩ := cert_of (hval 2 35 v2 rfl rfl) h2 hb
 have hv3 : v3.cells.toList = [v3] := by
  obtain ⟨a, ln, cp, rfl⟩ := okWide_slice Try.underlying37 (hval 3 37 v3 rfl rfl)
  rfl
 obtain ⟨ta, tc, trs, rfl, ht⟩ := trace_of h3 hf3 hv3
 clear hA0 hval0
 simp only [List.append_nil] at hW'
 have hlt : ∀ x ∈ (p0 ++ (p1 ++ (p2 ++ p3))), x.block < W.heap.size := fun x hx => by simpa using hW'.lt x (by simpa using hx)
 refine (law_sound W.heap.size W SA SB A B hnA hnB (Nat.le_refl _) xa xc prs hR hpn ba bc bcl q1 r1 sa sc scl q2 r2 oa oc ocl q3 r3 ta tc trs ht).mono ?_
 rintro e W' ⟨rfl, bel⟩
 have e1 : Rows.judgeSoundSpec.fn H ([d0, d1, d2, d3] ++ []) = { results := [.lit (.bool true)], args := [d0, d1, d2, d3] } := rfl
 refine ⟨_, rfl, _, _, _, [], p0 ++ (p1 ++ (p2 ++ p3)), [], hW', ?_, ?_, ?_, bel.frame _, fun h => by cases h⟩
 ·show DataW.TrodAll _ _ _ _ _ _ _ _ (Rows.judgeSoundSpec.fn H ([d0, d1, d2, d3] ++ [])).results _
  rw [e1]; exact trodAll_mk1 (shut_bool Try.underlying4 _)
 ·show DataW.TrodAll _ _ _ _ _ _ _ _ (Rows.judgeSoundSpec.fn H ([d0, d1, d2, d3] ++ [])).args _
  rw [e1]; exact trodAll_mk4 (Below.trod Try.laidOut (by kernel_rfl) (of_decide_eq_true (by kernel_rfl)) h0 bel (fun x hx => hlt x (by simp [hx]))) (Below.trod Try.laidOut (by kernel_rfl) (of_decide_eq_true (by kernel_rfl)) h1 bel (fun x hx => hlt x (by simp [hx]))) (Below.trod Try.laidOut (by kernel_rfl) (of_decide_eq_true (by kernel_rfl)) h2 bel (fun x hx => hlt x (by simp [hx]))) (Below.trod Try.laidOut (by kernel_rfl) (of_decide_eq_true (by kernel_rfl)) h3 bel (fun x hx => hlt x (by simp [hx])))
 ·rfl
theorem judgeSound_holds : Rows.JudgeSoundUptoSaid :=
 OpenClaim.holds_of_cond 6 Try.f6 rfl rfl rfl rfl rfl rfl rfl ⟨rfl, rfl, rfl, rfl, rfl⟩ rfl rfl rfl rfl rfl (by kernel_rfl) Try.func6 (by kernel_rfl)
  (of_decide_eq_true (by kernel_rfl)) (by unfold Func.isWrapper; first | (rw [if_pos (by decide +kernel)]; kernel_rfl) | (rw [if_neg (by decide +kernel)]; exact ⟨rfl, rfl⟩))
  (fun os started H enc _ F => sound_lifted os started H enc F)
end Go.Proofs.Ytefjicdhccfieaa
