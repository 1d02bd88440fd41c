import Derived.Test.YtlaljeobdddegaaLrC
namespace Go.Proofs.Ytlaljeobdddegaa.L
open Go.RowKit

def iV (x : Int) : Value := .int .i64 x
/-- the greatest depth of signals -/
def maxD (ds : List Int) (l : List Int) : Int := l.foldl (fun m s => mostI m (ds.getD s.toNat 0)) 0
def dsN (n0 : Nat) (tabs : List TbD) : List Int := tabs.foldl (fun ds t => ds ++ [maxD ds t.ins + 1]) (List.replicate n0 0)
theorem maxD_snoc (ds l : List Int) (s : Int) : maxD ds (l ++ [s]) = mostI (maxD ds l) (ds.getD s.toNat 0) := by unfold maxD; rw [List.foldl_append]; rfl
theorem dsN_snoc (n0 : Nat) (l : List TbD) (t : TbD) : dsN n0 (l ++ [t]) = dsN n0 l ++ [maxD (dsN n0 l) t.ins + 1] := by unfold dsN; rw [List.foldl_append]; rfl
theorem maxD_le {ds : List Int} {b : Int} (hb : 0 ≤ b) (h : ∀ x, x ∈ ds → 0 ≤ x ∧ x ≤ b) (l : List Int) : 0 ≤ maxD ds l ∧ maxD ds l ≤ b := by
  have key : ∀ (l : List Int) (m : Int), 0 ≤ m ∧ m ≤ b → 0 ≤ l.foldl (fun m s => mostI m (ds.getD s.toNat 0)) m ∧ l.foldl (fun m s => mostI m (ds.getD s.toNat 0)) m ≤ b := by
    intro l
    induction l with
    | nil => intro m hm; exact hm
    | cons a r ih =>
      intro m hm
      refine ih _ ?_
      have hd : 0 ≤ ds.getD a.toNat 0 ∧ ds.getD a.toNat 0 ≤ b := by
        rw [List.getD_eq_getElem?_getD]
        cases e : ds[a.toNat]? with
        | none => exact ⟨by simp, by simpa using hb⟩
        | some x => exact h x (List.mem_of_getElem? e)
      show 0 ≤ mostI m (ds.getD a.toNat 0) ∧ mostI m (ds.getD a.toNat 0) ≤ b
      unfold mostI
      split <;> omega
  exact key l 0 ⟨by omega, hb⟩
theorem dsN_len (n0 : Nat) (tabs : List TbD) : (dsN n0 tabs).length = n0 + tabs.length := by
  have key : ∀ (t : List TbD) (d : List Int), (t.foldl (fun ds t => ds ++ [maxD ds t.ins + 1]) d).length = d.length + t.length := by
    intro t
    induction t with
    | nil => intro d; rfl
    | cons a r ih => intro d; rw [List.foldl_cons, ih]; simp; omega
  unfold dsN
  rw [key]; simp
theorem dsN_le (n0 : Nat) (tabs : List TbD) : ∀ x, x ∈ dsN n0 tabs → 0 ≤ x ∧ x ≤ tabs.length := by
  have key : ∀ (t : List TbD) (d : List Int) (b : Int), 0 ≤ b → (∀ x, x ∈ d → 0 ≤ x ∧ x ≤ b) → ∀ x, x ∈ t.foldl (fun ds t => ds ++ [maxD ds t.ins + 1]) d → 0 ≤ x ∧ x ≤ b + t.length := by
    intro t
    induction t with
    | nil => intro d b hb h x hx; have := h x hx; simp; omega
    | cons a r ih =>
      intro d b hb h x hx
      have := ih (d ++ [maxD d a.ins + 1]) (b + 1) (by omega) (fun y hy => by
        rcases List.mem_append.1 hy with hy | hy
        · have := h y hy; omega
        · rw [List.mem_singleton.1 hy]
          have := maxD_le hb h a.ins
          omega) x hx
      rw [List.length_cons]
      omega
  intro x hx
  have := key tabs (List.replicate n0 0) 0 (by omega) (fun y hy => by rw [(List.mem_replicate.1 hy).2]; omega) x hx
  omega
def depN (N : NtD) : Int := maxD (dsN N.first.toNat N.tabs) (N.outs ++ N.next)
theorem info_int0 : (Try.prog.info? 3).map (fun i => (i.zero, i.size, i.bytes)) = some (some (.int .i64 0), 1, 8) := by kernel_rfl
theorem info_int : ∃ i, Try.prog.info? 3 = some i ∧ i.zero = some (.int .i64 0) ∧ i.size = 1 ∧ i.bytes = 8 := by
  have h := info_int0
  cases hi : Try.prog.info? 3 with
  | none => rw [hi] at h; cases h
  | some i => rw [hi] at h; simp at h; exact ⟨i, rfl, h.1, h.2.1, h.2.2⟩
theorem made_zero (n : Nat) : (madeCells (Value.int .i64 0).cells (n * 1)).toList = (List.replicate n (0 : Int)).map iV := by
  rw [Nat.mul_one]
  apply List.ext_getElem?
  intro i
  by_cases h : i < n
  · simp [madeCells, Value.cells, iV, h, Nat.mod_one]
  · simp [madeCells, Value.cells, iV, h]
/-- the row of depths, so many tables done -/
def dRow (N : NtD) (f k : Nat) : List Int := dsN f (N.tabs.take k) ++ List.replicate (N.tabs.length - k) 0
theorem dRow_len (N : NtD) (f k : Nat) (hk : k ≤ N.tabs.length) : (dRow N f k).length = f + N.tabs.length := by
  unfold dRow
  rw [List.length_append, dsN_len, List.length_take, List.length_replicate]; omega
theorem dRow_at {N : NtD} {f k : Nat} {s : Int} (hk : k ≤ N.tabs.length) (h0 : 0 ≤ s) (h1 : s < (f : Int) + k) : (dRow N f k)[s.toNat]? = some ((dsN f (N.tabs.take k)).getD s.toNat 0) := by
  have hl : s.toNat < (dsN f (N.tabs.take k)).length := by rw [dsN_len, List.length_take]; omega
  unfold dRow
  rw [List.getElem?_append_left hl, List.getD_eq_getElem?_getD, List.getElem?_eq_getElem hl]
  rfl
theorem dRow_next {N : NtD} {f k : Nat} {t : TbD} (h : N.tabs[k]? = some t) : ((dRow N f k).map iV).set (f + k) (iV (maxD (dsN f (N.tabs.take k)) t.ins + 1)) = (dRow N f (k + 1)).map iV := by
  have hk : k < N.tabs.length := (List.getElem?_eq_some_iff.1 h).1
  have hl : (dsN f (N.tabs.take k)).length = f + k := by rw [dsN_len, List.length_take]; omega
  rw [← List.map_set]
  congr 1
  unfold dRow
  rw [take_next _ k _ h, dsN_snoc, show N.tabs.length - k = (N.tabs.length - (k + 1)) + 1 by omega, List.replicate_succ, List.append_assoc]
  rw [List.set_append_right _ _ (by omega), hl]
  simp

/-- a valid net that is not too great -/
structure NtIn (N : NtD) : Prop where
  i0 : 0 ≤ N.ins
  i1 : N.ins ≤ 60000
  il : N.init.length ≤ 17592186044416
  tl : N.tabs.length ≤ 4398046511104
  ol : N.outs.length ≤ 60000
  nl : N.next.length = N.init.length
  t4 : ∀ d, d ∈ N.tabs → d.ins.length ≤ 4 ∧ 0 ≤ d.bits
  ti : ∀ (k : Nat) (d : TbD), N.tabs[k]? = some d → ∀ s, s ∈ d.ins → 0 ≤ s ∧ s < N.first + k
  ni : ∀ s, s ∈ N.next → 0 ≤ s ∧ s < N.sigs
  oi : ∀ s, s ∈ N.outs → 0 ≤ s ∧ s < N.sigs
theorem ntIn_of {N : NtD} (h : NtOk N = true) (h1 : N.init.length ≤ 17592186044416) (h2 : N.tabs.length ≤ 4398046511104) : NtIn N := by
  unfold NtOk at h
  rw [Bool.and_eq_true, Bool.and_eq_true, Bool.and_eq_true] at h
  obtain ⟨⟨⟨a, b⟩, c⟩, d⟩ := h
  obtain ⟨s0, s1, s2, s3⟩ := of_decide_eq_true a
  have ht : ∀ (k : Nat) (e : TbD), N.tabs[k]? = some e → e.ok (N.first + k) = true := fun k e he => by
    have := List.all_eq_true.1 b k (List.mem_range.2 (List.getElem?_eq_some_iff.1 he).1)
    rwa [tabOk_of he] at this
  have hk : ∀ (k : Nat) (e : TbD), N.tabs[k]? = some e → (e.ins.length ≤ 4 ∧ 0 ≤ e.bits) ∧ ∀ s, s ∈ e.ins → 0 ≤ s ∧ s < N.first + k := fun k e he => by
    have := ht k e he
    unfold TbD.ok at this
    rw [Bool.and_eq_true, Bool.and_eq_true] at this
    obtain ⟨⟨p, q⟩, r⟩ := this
    exact ⟨⟨of_decide_eq_true p, (of_decide_eq_true r).1⟩, fun s hs => of_decide_eq_true (List.all_eq_true.1 q s hs)⟩
  refine ⟨s0, s1, h1, h2, s2, s3, fun e he => ?_, fun k e he => (hk k e he).2, fun s hs => of_decide_eq_true (List.all_eq_true.1 c s hs), fun s hs => of_decide_eq_true (List.all_eq_true.1 d s hs)⟩
  obtain ⟨k, hk', rfl⟩ := List.getElem_of_mem he
  exact (hk k _ (List.getElem?_eq_getElem hk')).1

end Go.Proofs.Ytlaljeobdddegaa.L
