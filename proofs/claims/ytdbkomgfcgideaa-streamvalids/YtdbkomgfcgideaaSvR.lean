import Derived.Test.YtdbkomgfcgideaaRows
import Derived.RangeFuncNested
import Derived.RangeFuncBound
import Derived.RangeFuncCalls
import Derived.RangeFuncLeaves
namespace Go.Proofs.Ytdbkomgfcgideaa
open Go.RowKit

/-- what the program asks of each number: that it is one among so many -/
def okP (n c : Int) : Bool := decide (0 ≤ n) && decide (n < c)
def okPs (L : List (Int × Int)) : Bool := L.all (fun x => okP x.1 x.2)

theorem putObj_below {B : Nat} {a w : World} (h : Below B a w) {k : Nat} (hk : B ≤ k) (o : Obj) : Below B a (w.putObj k o) :=
  h.trans ⟨rfl, rfl, rfl, by simp, fun i hi => World.putObj_heap_other (by omega)⟩
theorem putObj_twice (w : World) (k : Nat) (o o' : Obj) (h : w.heap[k]? = some o') : (w.putObj k o).putObj k o' = w := by
  have : ((w.heap.setIfInBounds k o).setIfInBounds k o') = w.heap := by
    apply Array.ext_getElem?
    intro i
    by_cases e : i = k
    · subst e
      have hl := (Array.getElem?_eq_some_iff.1 h).1
      rw [h]; simp [hl]
    · rw [Array.getElem?_setIfInBounds_ne (Ne.symm e), Array.getElem?_setIfInBounds_ne (Ne.symm e)]
  unfold World.putObj
  rw [this]

/-- what a call of yield does: it hands back true and leaves the world, or it hands back false and leaves what st says -/
structure Yd (P : Program) (l : Nat) (V0 : World) (st : World → World) : Prop where
  go : ∀ (V : World) (n c : Int) (m : Nat), Below V0.heap.size V0 V → okP n c = true → YieldAt Fence.wide m P l #[.int .i64 n, .int .i64 c] V (fun e W => e = .returned (.bool true) ∧ W = V)
  no : ∀ (V : World) (n c : Int) (m : Nat), Below V0.heap.size V0 V → okP n c = false → YieldAt Fence.wide m P l #[.int .i64 n, .int .i64 c] V (fun e W => e = .returned (.bool false) ∧ W = st V)
  sz : ∀ V, Below V0.heap.size V0 V → (st V).heap.size = V.heap.size
  kp : ∀ V, Below V0.heap.size V0 V → ∀ k, V0.heap.size ≤ k → (st V).heap[k]? = V.heap[k]?

/-- an iterator that goes through the numbers L -/
def ItC (P : Program) (gf : Nat) (lb : Array Value) (L : List (Int × Int)) (w0 : World) : Prop :=
  ∀ (V0 : World) (l : Nat) (st : World → World) (V : World) (m : Nat), Below w0.heap.size w0 V0 → Yd P l V0 st → Below V0.heap.size V0 V →
    CallsIn Fence.wide m P gf (#[.func (.yield l) #[] #[]] ++ lb) V fun e W => (∃ v, e = .returned v) ∧ ∃ U, Below V0.heap.size V0 U ∧ ((okPs L = true ∧ W = U) ∨ (okPs L = false ∧ Below V0.heap.size (st U) W))

theorem rangeV {P : Program} {m : Nat} {g : Operand} {ps : Array Tmp} {assign body : Code} {Q : Exit → Act → World → Prop} {a : Act} {w : World} {gf : Nat} {lb : Array Value}
    (hg : a.eval g = .func (.func gf) #[] lb) (eg : ∀ args w, (callFunc gf args).run P w = .ok (.enter gf args) w) (hps : ps.size = 2)
    (L : List (Int × Int)) (hit : ItC P gf lb L w) (sb : World → World)
    (hsz : ∀ V, Below w.heap.size w V → (sb V).heap.size = V.heap.size) (hkp : ∀ V, Below w.heap.size w V → ∀ k, w.heap.size ≤ k → (sb V).heap[k]? = V.heap[k]?)
    (a₁ : Int → Int → Act)
    (hassign : ∀ (l : Nat) (n c : Int) (W : World) (m : Nat) (K : Act → World → Prop), K (a₁ n c) W →
      assign.wpIn (Fence.wide.inRound l) m P (Exit.then K (fun _ _ _ => False)) { tmps := (ps.zip #[.int .i64 n, .int .i64 c]).foldl (fun t (p, v) => t.setIfInBounds p v) a.tmps, defers := [] } W)
    (hgo : ∀ (l : Nat) (n c : Int) (V : World) (m : Nat), Below w.heap.size w V → okP n c = true → body.wpIn (Fence.wide.inRound l) m P (fun e _ W => e = .normal ∧ W = V) (a₁ n c) V)
    (hno : ∀ (l : Nat) (n c : Int) (V : World) (m : Nat), Below w.heap.size w V → okP n c = false → body.wpIn (Fence.wide.inRound l) m P (fun e _ W => e = .ret ∧ W = sb V) (a₁ n c) V)
    (hdone : okPs L = true → ∀ W, Below w.heap.size w W → W.heap[w.heap.size]? = some (.deferred (some [])) → Q .normal { a with defers := { target := .collected w.heap.size, args := #[] } :: a.defers } W)
    (hstop : okPs L = false → ∀ U W, Below w.heap.size w U → Below w.heap.size (sb U) W → W.heap[w.heap.size]? = some (.deferred (some [])) → Q .ret { a with defers := { target := .collected w.heap.size, args := #[] } :: a.defers } W) :
    (Code.rangeFunc g ps assign body).wpIn Fence.wide m P Q a w := by
  refine wpIn_rangeFunc ?_
  intro fn hfn
  let rec' : LoopState → Option Code → Loop := fun s j => { state := s, pending := j, fn, tmps := a.tmps, params := ps, assign, body, defers := w.heap.size }
  obtain ⟨rc, hrc⟩ : ∃ rc, rc = rec' := ⟨_, rfl⟩
  obtain ⟨V0, hV0⟩ : ∃ V0, (w.alloc (.deferred (some []))).alloc (.loop (rc .ready none)) = V0 := ⟨_, rfl⟩
  have s0 : V0.heap.size = w.heap.size + 2 := by rw [← hV0]; simp
  have b0 : Below w.heap.size w V0 := by rw [← hV0]; exact ((Below.refl _ w).alloc (Nat.le_refl _) _).alloc (by simp) _
  have l0 : V0.heap[w.heap.size + 1]? = some (.loop (rc .ready none)) := by
    rw [← hV0]
    have := World.alloc_heap_new (w.alloc (.deferred (some []))) (.loop (rc .ready none))
    rwa [World.size_alloc] at this
  have d0 : V0.heap[w.heap.size]? = some (.deferred (some [])) := by
    rw [← hV0]
    exact (Below.heap_alloc _ _ _ (by simp)).trans (World.alloc_heap_new w _)
  have up : ∀ {V}, Below V0.heap.size V0 V → Below w.heap.size w V := fun h => b0.trans (h.mono (by omega))
  have lV : ∀ {V}, Below V0.heap.size V0 V → V.heap[w.heap.size + 1]? = some (.loop (rc .ready none)) := fun h => (h.block _ (by omega)).trans l0
  have dV : ∀ {V}, Below V0.heap.size V0 V → V.heap[w.heap.size]? = some (.deferred (some [])) := fun h => (h.block _ (by omega)).trans d0
  refine ⟨w.heap.size + 1, [{ target := .collected w.heap.size, args := #[] }], V0, { target := .fn (.func gf) lb, args := #[.func (.yield (w.heap.size + 1)) #[] #[]] }, V0, gf,
    #[.func (.yield (w.heap.size + 1)) #[] #[]] ++ lb, V0, ?_, ?_, ?_, ?_, fun h => by simp [Fence.wide] at h, ?_⟩
  · rw [← hV0, hrc]; exact run_enterLoop_outer _ _ _ _ _
  · simp only [resolve, hg]
    simp [go_sem]
  · intro f' _; trivial
  · simp [invoke, go_sem, eg]
  · let st : World → World := fun V => (sb (V.putObj (w.heap.size + 1) (.loop (rc .busy none)))).putObj (w.heap.size + 1) (.loop (rc .done (some .ret)))
    have bz : ∀ {V}, Below V0.heap.size V0 V → Below w.heap.size w (V.putObj (w.heap.size + 1) (.loop (rc .busy none))) := fun h => putObj_below (up h) (by omega) _
    have busyAt : ∀ {V}, Below V0.heap.size V0 V → (V.putObj (w.heap.size + 1) (.loop (rc .busy none))).heap[w.heap.size + 1]? = some (.loop (rc .busy none)) := fun h =>
      World.putObj_heap_same (Array.getElem?_eq_some_iff.1 (lV h)).1
    have sbAt : ∀ {V}, Below V0.heap.size V0 V → (sb (V.putObj (w.heap.size + 1) (.loop (rc .busy none)))).heap[w.heap.size + 1]? = some (.loop (rc .busy none)) := fun h =>
      (hkp _ (bz h) _ (by omega)).trans (busyAt h)
    have yd : Yd P (w.heap.size + 1) V0 st := by
      refine ⟨fun V n c m hb ho => ?_, fun V n c m hb ho => ?_, fun V hb => ?_, fun V hb k hk => ?_⟩
      · have hy := run_yield (P := P) (args := #[.int .i64 n, .int .i64 c]) (lV hb) (by rw [hrc]; exact hps.symm)
        rw [hrc] at hy
        refine ⟨fn, _, assign, body, hy, roundIn_of_wpIn hfn (hassign _ n c V m _ ⟨_, run_beginRound (lV hb) (by rw [hrc]), ?_⟩)⟩
        have : ({ rc .ready none with state := .busy } : Loop) = rc .busy none := by rw [hrc]
        rw [this]
        refine wpIn_mono (hgo _ n c _ m (bz hb) ho) ?_
        rintro e a3 W3 ⟨rfl, rfl⟩
        refine ⟨_, _, run_endRound none (busyAt hb), rfl, ?_⟩
        have e1 : ({ rc .busy none with state := if (none : Option Code).isNone then .ready else .done, pending := none } : Loop) = rc .ready none := by rw [hrc]; rfl
        rw [e1]
        exact putObj_twice V _ _ _ (lV hb)
      · have hy := run_yield (P := P) (args := #[.int .i64 n, .int .i64 c]) (lV hb) (by rw [hrc]; exact hps.symm)
        rw [hrc] at hy
        refine ⟨fn, _, assign, body, hy, roundIn_of_wpIn hfn (hassign _ n c V m _ ⟨_, run_beginRound (lV hb) (by rw [hrc]), ?_⟩)⟩
        have : ({ rc .ready none with state := .busy } : Loop) = rc .busy none := by rw [hrc]
        rw [this]
        refine wpIn_mono (hno _ n c _ m (bz hb) ho) ?_
        rintro e a3 W3 ⟨rfl, rfl⟩
        refine ⟨_, _, run_endRound (some .ret) (sbAt hb), rfl, ?_⟩
        have e1 : ({ rc .busy none with state := if (some Code.ret : Option Code).isNone then .ready else .done, pending := some .ret } : Loop) = rc .done (some .ret) := by rw [hrc]; rfl
        rw [e1]
      · show ((sb _).putObj _ _).heap.size = _
        rw [World.putObj_size, hsz _ (bz hb), World.putObj_size]
      · show ((sb _).putObj _ _).heap[k]? = _
        rw [World.putObj_heap_other (by omega), hkp _ (bz hb) _ (by omega), World.putObj_heap_other (by omega)]
    refine (hit V0 (w.heap.size + 1) st V0 _ b0 yd (Below.refl _ _)).mono ?_
    rintro e W ⟨⟨v, rfl⟩, U, hU, ⟨ho, rfl⟩ | ⟨ho, hW⟩⟩
    · refine ⟨none, _, by have := run_endLoop (P := P) (lV hU) (by rw [hrc]; simp [rec']); rw [hrc] at this; exact this, ?_⟩
      exact hdone ho _ (putObj_below (up hU) (by omega) _) ((World.putObj_heap_other (by omega)).trans (dV hU))
    · have lW : W.heap[w.heap.size + 1]? = some (.loop (rc .done (some .ret))) := (hW.block _ (by omega)).trans (World.putObj_heap_same (Array.getElem?_eq_some_iff.1 (sbAt hU)).1)
      have dW : W.heap[w.heap.size]? = some (.deferred (some [])) :=
        (hW.block _ (by omega)).trans ((World.putObj_heap_other (by omega)).trans ((hkp _ (bz hU) _ (Nat.le_refl _)).trans ((World.putObj_heap_other (by omega)).trans (dV hU))))
      refine ⟨some .ret, _, by have := run_endLoop (P := P) lW (by rw [hrc]; simp [rec']); rw [hrc] at this; exact this, ?_⟩
      refine wpIn_ret (hstop ho _ _ (bz hU) ?_ ((World.putObj_heap_other (by omega)).trans dW))
      exact putObj_below ((putObj_below (Below.refl _ _) (by omega) _).trans (hW.mono (by omega))) (by omega) _

end Go.Proofs.Ytdbkomgfcgideaa
