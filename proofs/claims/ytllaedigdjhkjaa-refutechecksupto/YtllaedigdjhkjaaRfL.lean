import Derived.Test.YtllaedigdjhkjaaRfK
namespace Go.Proofs.Ytllaedigdjhkjaa
open Go.RowKit

/-- a clause as the board keeps it -/
structure BC where
  l : List Nat
  next : Nat
  tier : Nat
  round : Nat
/-- the board -/
structure St where
  V : Nat
  cls : List BC
  W : Nat → Nat → List (Nat × Nat)
  held : List Int
  reason : List Int
  used : List Bool
  trail : List Nat
  lk0 : Nat
  lk1 : Nat
  done : Bool
  round : Nat
  steps : Nat
def fields (sl : Site → Slot) (st : St) : Array Value := #[(sl .clauses).v, (sl (.row 0)).v, (sl (.row 1)).v, (sl .held).v, (sl .reason).v, (sl .used).v, (sl .trail).v, .int .i64 st.lk0, .int .i64 st.lk1, .bool st.done, .int .i64 st.round, .int .i64 st.steps]
def i8V (l : List Int) : List Value := l.map (.int .i8 ·)
def i32V (l : List Int) : List Value := l.map (.int .i32 ·)
def litV (l : List Nat) : List Value := l.map fun (x : Nat) => .int .i32 (x : Int)
def boolV (l : List Bool) : List Value := l.map (.bool ·)
def wlV (l : List (Nat × Nat)) : List Value := l.flatMap fun e => [.int .i32 (e.1 : Int), .int .i32 (e.2 : Int)]
structure Link (sl : Site → Slot) (st : St) : Prop where
  hV : st.V ≤ 100000
  held : (sl .held).n = 2 * st.V ∧ (sl .held).xs = i8V st.held
  heldL : st.held.length = 2 * st.V
  reason : (sl .reason).n = st.V ∧ (sl .reason).xs = i32V st.reason
  reasonL : st.reason.length = st.V
  used : (sl .used).n = st.V ∧ (sl .used).xs = boolV st.used
  usedL : st.used.length = st.V
  trail : (sl .trail).n = st.trail.length ∧ (sl .trail).xs = litV st.trail
  clsN : (sl .clauses).n = st.cls.length
  cls : ∀ i c, st.cls[i]? = some c → (sl .clauses).xs[4 * i]? = some (sl (.lits i)).v ∧ (sl .clauses).xs[4 * i + 1]? = some (.int .i64 c.next) ∧ (sl .clauses).xs[4 * i + 2]? = some (.int .i64 c.tier) ∧ (sl .clauses).xs[4 * i + 3]? = some (.int .i64 c.round)
  lits : ∀ i c, st.cls[i]? = some c → (sl (.lits i)).n = c.l.length ∧ (sl (.lits i)).xs = litV c.l
  row : ∀ t, t < 2 → (sl (.row t)).n = 2 * st.V ∧ ∀ l, l < 2 * st.V → (sl (.row t)).xs[l]? = some (sl (.wl t l)).v
  wl : ∀ t l, t < 2 → l < 2 * st.V → (sl (.wl t l)).n = (st.W t l).length ∧ (sl (.wl t l)).xs = wlV (st.W t l)
/-- the board as it lies in memory; X: the clause to come; CV: the clauses' own slice -/
def Bd (B : Nat) (w : World) (bb : Nat) (st : St) (X : Slot) (CV : Value) : Prop := ∃ sl, Rows' B w bb (fields sl st) sl ∧ Link sl st ∧ sl (.lits st.cls.length) = X ∧ (sl .clauses).v = CV
def St.hold (st : St) (l : Nat) (r : Int) : St := { st with held := (st.held.set l 1).set (oppN l) (-1), reason := st.reason.set (l / 2) r, trail := st.trail ++ [l] }
theorem oppN_lt {V l : Nat} (h : l < 2 * V) : oppN l < 2 * V := by unfold oppN; split <;> omega
theorem oppN_ne (l : Nat) : oppN l ≠ l := by unfold oppN; split <;> omega
theorem oppN_opp (l : Nat) : oppN (oppN l) = l := by unfold oppN; split <;> (try split) <;> omega
theorem i8V_set (l : List Int) (i : Nat) (x : Int) : i8V (l.set i x) = (i8V l).set i (.int .i8 x) := by simp [i8V, List.map_set]
theorem i32V_set (l : List Int) (i : Nat) (x : Int) : i32V (l.set i x) = (i32V l).set i (.int .i32 x) := by simp [i32V, List.map_set]
theorem litV_app (l : List Nat) (x : Nat) : litV (l ++ [x]) = litV l ++ [.int .i32 (x : Int)] := by simp [litV]
/-- what is held, why, in what order: another -/
theorem Link.hold {sl : Site → Slot} {st : St} (h : Link sl st) (l : Nat) (r : Int) (v1 v2 v3 : Value) :
    Link (setS (setS (setS sl .held ⟨v1, (sl .held).n, ((sl .held).xs.set l (.int .i8 1)).set (oppN l) (.int .i8 (-1))⟩) .reason ⟨v2, (sl .reason).n, (sl .reason).xs.set (l / 2) (.int .i32 r)⟩) .trail ⟨v3, (sl .trail).n + 1, (sl .trail).xs ++ [.int .i32 (l : Int)]⟩) (st.hold l r) := by
  refine ⟨h.hV, ?_, ?_, ?_, ?_, ?_, h.usedL, ?_, ?_, ?_, ?_, ?_, ?_⟩
  · refine ⟨by simpa [setS, St.hold] using h.held.1, ?_⟩
    simp only [St.hold, i8V_set]
    rw [← h.held.2]
    simp [setS]
  · simpa [St.hold] using h.heldL
  · refine ⟨by simpa [setS, St.hold] using h.reason.1, ?_⟩
    simp only [St.hold, i32V_set]
    rw [← h.reason.2]
    simp [setS]
  · simpa [St.hold] using h.reasonL
  · simpa [setS, St.hold] using h.used
  · refine ⟨by simpa [setS, St.hold] using h.trail.1, ?_⟩
    simp only [St.hold, litV_app]
    rw [← h.trail.2]
    simp [setS]
  · simpa [setS, St.hold] using h.clsN
  · intro i c hc
    simpa [setS, St.hold] using h.cls i c hc
  · intro i c hc
    simpa [setS, St.hold] using h.lits i c hc
  · intro t ht
    simpa [setS, St.hold] using h.row t ht
  · intro t l' ht hl
    simpa [setS, St.hold] using h.wl t l' ht hl

end Go.Proofs.Ytllaedigdjhkjaa
