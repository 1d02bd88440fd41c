import Derived.Test.YtlaljeobdddegaaAcA
namespace Go.Proofs.Ytlaljeobdddegaa
open Go.RowKit

/-! What Clean makes: by the gates' need alone -/
def toV (first : Nat) (nk : List Bool) (v : Nat) : Nat := if v < first then v else first + (nk.take (v - first)).count true
def litC (first : Nat) (nk : List Bool) (l : Int) : Int := 2 * (toV first nk (l.toNat / 2) : Nat) + l % 2
def keptA (first : Nat) (nk : List Bool) (ands : List AndD) : List AndD := (ands.zip nk).filterMap fun x => if x.2 then some ⟨litC first nk x.1.x, litC first nk x.1.y⟩ else none
def cleanG (first : Nat) (nk : List Bool) (G : GrD) : GrD := ⟨G.ins, G.lats.map fun l => ⟨litC first nk l.next, l.init⟩, keptA first nk G.ands, G.outs.map (litC first nk)⟩

theorem keptP_len (f : AndD × Bool → AndD) (l : List (AndD × Bool)) : (l.filterMap fun x => if x.2 then some (f x) else none).length = (l.map Prod.snd).count true := by
  induction l with
  | nil => rfl
  | cons x t ih =>
    obtain ⟨d, b⟩ := x
    cases b
    · simpa using ih
    · simpa using ih
/-- the gates kept of the first k -/
def keptK (first : Nat) (nk : List Bool) (ands : List AndD) (k : Nat) : List AndD := ((ands.zip nk).take k).filterMap fun x => if x.2 then some ⟨litC first nk x.1.x, litC first nk x.1.y⟩ else none
theorem keptK_len (first : Nat) (nk : List Bool) (ands : List AndD) (k : Nat) (hl : nk.length = ands.length) : (keptK first nk ands k).length = (nk.take k).count true := by
  unfold keptK
  rw [keptP_len (fun x => ⟨litC first nk x.1.x, litC first nk x.1.y⟩)]
  congr 1
  rw [List.map_take]
  congr 1
  rw [List.map_snd_zip]
  omega
theorem keptK_all (first : Nat) (nk : List Bool) (ands : List AndD) (hl : nk.length = ands.length) : keptK first nk ands ands.length = keptA first nk ands := by
  unfold keptK keptA
  rw [List.take_of_length_le (by simp; omega)]
theorem keptK_next (first : Nat) (nk : List Bool) (ands : List AndD) (k : Nat) (d : AndD) (b : Bool) (hd : ands[k]? = some d) (hb : nk[k]? = some b) : keptK first nk ands (k + 1) = keptK first nk ands k ++ (if b then [⟨litC first nk d.x, litC first nk d.y⟩] else []) := by
  unfold keptK
  have hz : (ands.zip nk)[k]? = some (d, b) := by rw [List.getElem?_zip_eq_some]; exact ⟨hd, hb⟩
  rw [take_snoc hz, List.filterMap_append]
  cases b <;> rfl
theorem toV_low {first : Nat} {nk : List Bool} {v : Nat} (h : v < first) : toV first nk v = v := by unfold toV; rw [if_pos h]
theorem toV_gate (first : Nat) (nk : List Bool) (k : Nat) : toV first nk (first + k) = first + (nk.take k).count true := by
  unfold toV; rw [if_neg (by omega)]; congr 2; rw [show first + k - first = k by omega]
/-- the program's numbers: how many are marked ahead -/
theorem rank_eq (first : Nat) (nk : List Bool) (v : Nat) : ((List.replicate first true ++ nk).take v).count true = toV first nk v := by
  rw [List.take_append, List.count_append]
  simp only [List.length_replicate]
  unfold toV
  rcases Nat.lt_or_ge v first with h | h
  · rw [if_pos h, show v - first = 0 by omega]
    simp [List.take_replicate, Nat.min_eq_left (Nat.le_of_lt h)]
  · rw [if_neg (by omega)]
    simp [List.take_replicate, Nat.min_eq_right h]
/-- the gates' need: the document's -/
def opsOf (G : GrD) : Ops := G.ands.map fun d => (d.x.toNat / 2, d.y.toNat / 2)
def rootsOf (G : GrD) : List Nat := G.lats.map (fun l => l.next.toNat / 2) ++ G.outs.map (fun o => o.toNat / 2)
/-- two markings that agree on what is needed have the same gates -/
theorem same_nk {first : Nat} {ops : Ops} {roots : List Nat} {nd nd' : List Bool} (hl : nd.length = nd'.length) (h : ∀ v, first ≤ v → (On nd v ↔ Nd first ops roots v)) (h' : ∀ v, first ≤ v → (On nd' v ↔ Nd first ops roots v)) : nd.drop first = nd'.drop first := by
  apply List.ext_getElem?
  intro i
  rw [List.getElem?_drop, List.getElem?_drop]
  have e := (h (first + i) (by omega)).trans (h' (first + i) (by omega)).symm
  unfold On at e
  rcases Nat.lt_or_ge (first + i) nd.length with hi | hi
  · rw [List.getElem?_eq_getElem hi, List.getElem?_eq_getElem (by omega)] at e ⊢
    simp only [Option.some.injEq] at e ⊢
    cases h1 : nd[first + i] <;> cases h2 : nd'[first + i] <;> simp_all
  · rw [List.getElem?_eq_none hi, List.getElem?_eq_none (by omega)]
theorem low_on {first : Nat} {nd : List Bool} (hl : first ≤ nd.length) (h : ∀ v, v < first → On nd v) : nd = List.replicate first true ++ nd.drop first := by
  have : nd.take first = List.replicate first true := by
    apply List.ext_getElem?
    intro i
    rcases Nat.lt_or_ge i first with hi | hi
    · rw [List.getElem?_take_of_lt hi, List.getElem?_replicate, if_pos hi]; exact h i hi
    · rw [List.getElem?_eq_none (by simp; omega), List.getElem?_eq_none (by simp; omega)]
  rw [← this, List.take_append_drop]

end Go.Proofs.Ytlaljeobdddegaa
