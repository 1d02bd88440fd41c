import Derived.Test.YtibjgoigdajkkaaDoorJ06
namespace Go.Proofs.YtibjgoigdajkkaaDoor
open Go.RowKit

/-- what a signal is worth -/
def sV (v : List Bool) (s : Int) : Bool := v[s.toNat]?.getD false
/-- what bits spell, the first one the lowest -/
def spell : List Bool → Nat
  | [] => 0
  | b :: r => (if b then 1 else 0) + 2 * spell r
theorem spell_snoc (l : List Bool) (b : Bool) : spell (l ++ [b]) = spell l + (if b then 2 ^ l.length else 0) := by
  induction l with
  | nil => cases b <;> rfl
  | cons a r ih =>
    rw [List.cons_append, spell, spell, ih, List.length_cons, Nat.pow_succ]
    cases a <;> cases b <;> simp <;> omega
theorem spell_lt (l : List Bool) : spell l < 2 ^ l.length := by
  induction l with
  | nil => decide
  | cons a r ih =>
    rw [spell, List.length_cons, Nat.pow_succ]
    cases a <;> simp <;> omega
def bitAt (bits : Int) (k : Nat) : Bool := decide (bits / 2 ^ k % 2 = 1)
def tabV (d : TbD) (v : List Bool) : Bool := bitAt d.bits (spell (d.ins.map (sV v)))
theorem wrap64_of (x : Int) (h0 : -9223372036854775808 ≤ x) (h1 : x < 9223372036854775808) : wrap64 x = x := by
  unfold wrap64; omega
set_option maxRecDepth 100000 in
set_option maxHeartbeats 8000000 in
theorem told_doc (w : World) (a : Option Addr) (c : Nat) (l : List Bool) (R : RowAt w.heap.size w a 1 (l.map boolC)) (hl : l.length ≤ 4) (bits : Int) (h0 : 0 ≤ bits) :
    Calls Tryd.prog 28 #[.int .i64 bits, .slice a l.length c] w fun e w' => e = .returned (.bool (bitAt bits (spell l))) ∧ w' = w := by
  have HR := hidden R
  clear R
  obtain ⟨m, HM⟩ : ∃ m, Hid (m = l.length) := ⟨_, rfl⟩
  obtain ⟨r, HRR⟩ : ∃ r, Hid (bitAt bits (spell l) = r) := ⟨_, rfl⟩
  rw [HRR.out]
  rw [← HM.out] at hl
  rw [← HM.out]
  go_enter Tryd.func28, Tryd.ntmps28
  go_wp2_with fail
  go_loopw [5, 6] (fun s' i' w' => ∃ (k sp : Nat), k ≤ m ∧ i' = .int .i64 k ∧ s' = .int .i64 sp ∧ Hid (sp = spell (l.take k)) ∧ Hid (w' = w)) (fun _ i' _ => m - (intOf i').toNat)
  case atStart => exact ⟨0, 0, Nat.zero_le _, rfl, rfl, rfl, rfl⟩
  case round =>
    obtain ⟨k, sp, hk, rfl, rfl, HSP, HW⟩ := hrel
    have hsp : sp < 16 := by
      rw [HSP.out]
      have := spell_lt (l.take k)
      have h2 : (l.take k).length ≤ 4 := by rw [List.length_take]; have := HM.out; omega
      have := Nat.pow_le_pow_right (show 0 < 2 by decide) h2
      omega
    by_cases hlt : k < m
    · have hltI : (k : Int) < (m : Int) := by omega
      obtain ⟨x, hd⟩ := getElem_lt (show k < l.length by rw [← HM.out]; exact hlt)
      obtain ⟨b, o, ea, hlb, hc⟩ := rowB HR.out hd
      have c0 : wr.cell? ⟨b, o + k, none⟩ = some (.bool x) := by rw [HW.out]; exact hc
      have e2 : IntKind.i64.wrap ((k : Int) + 1) = (k : Int) + 1 := wrapI _ (by omega) (by omega)
      have HNX : Hid (spell (l.take (k + 1)) = sp + (if x then 2 ^ k else 0)) := by
        show _ = _
        rw [take_next _ k _ hd, spell_snoc, ← HSP.out, List.length_take]
        congr 2
        rw [Nat.min_eq_left (by have := HM.out; omega)]
      rw [ea]
      clear hd hc hlb ea HSP
      cases x
      · go_wp2
        go_roundw
        case measure => simp [intOf]; omega
        case rel => exact ⟨k + 1, sp, by omega, by simp, rfl, HNX.out.symm, HW.out⟩
      · have eu : IntKind.u64.wrap (k : Int) = (k : Int) := by rw [IntKind.wrap_u64]; omega
        obtain ⟨P, HP⟩ : ∃ P : Nat, Hid (P = 2 ^ k) := ⟨_, rfl⟩
        have hP : P ≤ 8 := by
          rw [HP.out]
          have := Nat.pow_le_pow_right (show 0 < 2 by decide) (show k ≤ 3 by omega)
          omega
        have hPI : (2 : Int) ^ k = (P : Int) := by rw [HP.out]; simp
        have eP : wrap64 (2 ^ min (k : Int).toNat 64) = (P : Int) := by
          rw [show min (k : Int).toNat 64 = k by omega, hPI]
          exact wrap64_of _ (by omega) (by omega)
        have eP2 : wrap64 (2 ^ k) = (P : Int) := by
          rw [hPI]
          exact wrap64_of _ (by omega) (by omega)
        have eS : IntKind.i64.wrap ((sp : Int) + (P : Int)) = (sp : Int) + (P : Int) := wrapI _ (by omega) (by omega)
        go_wp2
        go_roundw
        case measure => simp [intOf]; omega
        case rel => exact ⟨k + 1, sp + P, by omega, by simp, by simp, by show _ = _; rw [HNX.out, HP.out]; rfl, HW.out⟩
    · have hge : ¬ ((k : Int) < (m : Int)) := by omega
      have HF : Hid (r = decide (bits / 2 ^ sp % 2 = 1)) := by
        have := HSP.out
        rw [List.take_of_length_le (by have := HM.out; omega)] at this
        rw [← HRR.out, ← this]
        exact rfl
      have eu : IntKind.u64.wrap (sp : Int) = (sp : Int) := by rw [IntKind.wrap_u64]; omega
      clear HSP
      have hq : 0 ≤ bits / 2 ^ sp := Int.ediv_nonneg h0 (Int.le_of_lt (Int.pow_pos (by decide)))
      have HQ : Hid (((bits / 2 ^ sp).tmod 2 == 1) = r) := by
        show _ = _
        rw [HF.out, Int.tmod_eq_emod_of_nonneg hq, Bool.eq_iff_iff]
        simp
      clear HF hq
      go_wp2
      go_ret
      exact ⟨ret_bool HQ.out, HW.out⟩
def mostI (a b : Int) : Int := if b > a then b else a
set_option maxRecDepth 100000 in
set_option maxHeartbeats 8000000 in
theorem most_doc (w : World) (a b : Int) :
    Calls Tryd.prog 24 #[.int .i64 a, .int .i64 b] w fun e w' => e = .returned (.int .i64 (mostI a b)) ∧ w' = w := by
  unfold mostI
  by_cases h : b > a
  · rw [if_pos h]
    go_enter Tryd.func24, Tryd.ntmps24
    go_wp2
    go_ret
    exact ⟨rfl, rfl⟩
  · rw [if_neg h]
    go_enter Tryd.func24, Tryd.ntmps24
    go_wp2
    go_ret
    exact ⟨rfl, rfl⟩


end Go.Proofs.YtibjgoigdajkkaaDoor

namespace Go.Proofs.YtibjgoigdajkkaaDoor
open Go.RowKit

def iV (x : Int) : Value := .int .i64 x
/-- the greatest depth of signals -/
def maxD (ds : List Int) (l : List Int) : Int := l.foldl (fun m s => mostI m (ds.getD s.toNat 0)) 0
def dsN (n0 : Nat) (tabs : List TbD) : List Int := tabs.foldl (fun ds t => ds ++ [maxD ds t.ins + 1]) (List.replicate n0 0)
theorem maxD_snoc (ds l : List Int) (s : Int) : maxD ds (l ++ [s]) = mostI (maxD ds l) (ds.getD s.toNat 0) := by unfold maxD; rw [List.foldl_append]; rfl
theorem dsN_snoc (n0 : Nat) (l : List TbD) (t : TbD) : dsN n0 (l ++ [t]) = dsN n0 l ++ [maxD (dsN n0 l) t.ins + 1] := by unfold dsN; rw [List.foldl_append]; rfl
theorem maxD_le {ds : List Int} {b : Int} (hb : 0 ≤ b) (h : ∀ x, x ∈ ds → 0 ≤ x ∧ x ≤ b) (l : List Int) : 0 ≤ maxD ds l ∧ maxD ds l ≤ b := by
  have key : ∀ (l : List Int) (m : Int), 0 ≤ m ∧ m ≤ b → 0 ≤ l.foldl (fun m s => mostI m (ds.getD s.toNat 0)) m ∧ l.foldl (fun m s => mostI m (ds.getD s.toNat 0)) m ≤ b := by
    intro l
    induction l with
    | nil => intro m hm; exact hm
    | cons a r ih =>
      intro m hm
      refine ih _ ?_
      have hd : 0 ≤ ds.getD a.toNat 0 ∧ ds.getD a.toNat 0 ≤ b := by
        rw [List.getD_eq_getElem?_getD]
        cases e : ds[a.toNat]? with
        | none => exact ⟨by simp, by simpa using hb⟩
        | some x => exact h x (List.mem_of_getElem? e)
      show 0 ≤ mostI m (ds.getD a.toNat 0) ∧ mostI m (ds.getD a.toNat 0) ≤ b
      unfold mostI
      split <;> omega
  exact key l 0 ⟨by omega, hb⟩
theorem dsN_len (n0 : Nat) (tabs : List TbD) : (dsN n0 tabs).length = n0 + tabs.length := by
  have key : ∀ (t : List TbD) (d : List Int), (t.foldl (fun ds t => ds ++ [maxD ds t.ins + 1]) d).length = d.length + t.length := by
    intro t
    induction t with
    | nil => intro d; rfl
    | cons a r ih => intro d; rw [List.foldl_cons, ih]; simp; omega
  unfold dsN
  rw [key]; simp
theorem dsN_le (n0 : Nat) (tabs : List TbD) : ∀ x, x ∈ dsN n0 tabs → 0 ≤ x ∧ x ≤ tabs.length := by
  have key : ∀ (t : List TbD) (d : List Int) (b : Int), 0 ≤ b → (∀ x, x ∈ d → 0 ≤ x ∧ x ≤ b) → ∀ x, x ∈ t.foldl (fun ds t => ds ++ [maxD ds t.ins + 1]) d → 0 ≤ x ∧ x ≤ b + t.length := by
    intro t
    induction t with
    | nil => intro d b hb h x hx; have := h x hx; simp; omega
    | cons a r ih =>
      intro d b hb h x hx
      have := ih (d ++ [maxD d a.ins + 1]) (b + 1) (by omega) (fun y hy => by
        rcases List.mem_append.1 hy with hy | hy
        · have := h y hy; omega
        · rw [List.mem_singleton.1 hy]
          have := maxD_le hb h a.ins
          omega) x hx
      rw [List.length_cons]
      omega
  intro x hx
  have := key tabs (List.replicate n0 0) 0 (by omega) (fun y hy => by rw [(List.mem_replicate.1 hy).2]; omega) x hx
  omega
def depN (N : NtD) : Int := maxD (dsN N.first.toNat N.tabs) (N.outs ++ N.next)
theorem info_int0 : (Tryd.prog.info? 3).map (fun i => (i.zero, i.size, i.bytes)) = some (some (.int .i64 0), 1, 8) := by kernel_rfl
theorem info_int : ∃ i, Tryd.prog.info? 3 = some i ∧ i.zero = some (.int .i64 0) ∧ i.size = 1 ∧ i.bytes = 8 := by
  have h := info_int0
  cases hi : Tryd.prog.info? 3 with
  | none => rw [hi] at h; cases h
  | some i => rw [hi] at h; simp at h; exact ⟨i, rfl, h.1, h.2.1, h.2.2⟩
theorem made_zero (n : Nat) : (madeCells (Value.int .i64 0).cells (n * 1)).toList = (List.replicate n (0 : Int)).map iV := by
  rw [Nat.mul_one]
  apply List.ext_getElem?
  intro i
  by_cases h : i < n
  · simp [madeCells, Value.cells, iV, h, Nat.mod_one]
  · simp [madeCells, Value.cells, iV, h]
/-- the row of depths, so many tables done -/
def dRow (N : NtD) (f k : Nat) : List Int := dsN f (N.tabs.take k) ++ List.replicate (N.tabs.length - k) 0
theorem dRow_len (N : NtD) (f k : Nat) (hk : k ≤ N.tabs.length) : (dRow N f k).length = f + N.tabs.length := by
  unfold dRow
  rw [List.length_append, dsN_len, List.length_take, List.length_replicate]; omega
theorem dRow_at {N : NtD} {f k : Nat} {s : Int} (hk : k ≤ N.tabs.length) (h0 : 0 ≤ s) (h1 : s < (f : Int) + k) : (dRow N f k)[s.toNat]? = some ((dsN f (N.tabs.take k)).getD s.toNat 0) := by
  have hl : s.toNat < (dsN f (N.tabs.take k)).length := by rw [dsN_len, List.length_take]; omega
  unfold dRow
  rw [List.getElem?_append_left hl, List.getD_eq_getElem?_getD, List.getElem?_eq_getElem hl]
  rfl
theorem dRow_next {N : NtD} {f k : Nat} {t : TbD} (h : N.tabs[k]? = some t) : ((dRow N f k).map iV).set (f + k) (iV (maxD (dsN f (N.tabs.take k)) t.ins + 1)) = (dRow N f (k + 1)).map iV := by
  have hk : k < N.tabs.length := (List.getElem?_eq_some_iff.1 h).1
  have hl : (dsN f (N.tabs.take k)).length = f + k := by rw [dsN_len, List.length_take]; omega
  rw [← List.map_set]
  congr 1
  unfold dRow
  rw [take_next _ k _ h, dsN_snoc, show N.tabs.length - k = (N.tabs.length - (k + 1)) + 1 by omega, List.replicate_succ, List.append_assoc]
  rw [List.set_append_right _ _ (by omega), hl]
  simp
/-- a valid net that is not too great -/
structure NtIn (N : NtD) : Prop where
  i0 : 0 ≤ N.ins
  i1 : N.ins ≤ 60000
  il : N.init.length ≤ 17592186044416
  tl : N.tabs.length ≤ 4398046511104
  ol : N.outs.length ≤ 60000
  nl : N.next.length = N.init.length
  t4 : ∀ d, d ∈ N.tabs → d.ins.length ≤ 4 ∧ 0 ≤ d.bits
  ti : ∀ (k : Nat) (d : TbD), N.tabs[k]? = some d → ∀ s, s ∈ d.ins → 0 ≤ s ∧ s < N.first + k
  ni : ∀ s, s ∈ N.next → 0 ≤ s ∧ s < N.sigs
  oi : ∀ s, s ∈ N.outs → 0 ≤ s ∧ s < N.sigs
theorem ntIn_of {N : NtD} (h : NtOk N = true) (h1 : N.init.length ≤ 17592186044416) (h2 : N.tabs.length ≤ 4398046511104) : NtIn N := by
  unfold NtOk at h
  rw [Bool.and_eq_true, Bool.and_eq_true, Bool.and_eq_true] at h
  obtain ⟨⟨⟨a, b⟩, c⟩, d⟩ := h
  obtain ⟨s0, s1, s2, s3⟩ := of_decide_eq_true a
  have ht : ∀ (k : Nat) (e : TbD), N.tabs[k]? = some e → e.ok (N.first + k) = true := fun k e he => by
    have := List.all_eq_true.1 b k (List.mem_range.2 (List.getElem?_eq_some_iff.1 he).1)
    rwa [tabOk_of he] at this
  have hk : ∀ (k : Nat) (e : TbD), N.tabs[k]? = some e → (e.ins.length ≤ 4 ∧ 0 ≤ e.bits) ∧ ∀ s, s ∈ e.ins → 0 ≤ s ∧ s < N.first + k := fun k e he => by
    have := ht k e he
    unfold TbD.ok at this
    rw [Bool.and_eq_true, Bool.and_eq_true] at this
    obtain ⟨⟨p, q⟩, r⟩ := this
    exact ⟨⟨of_decide_eq_true p, (of_decide_eq_true r).1⟩, fun s hs => of_decide_eq_true (List.all_eq_true.1 q s hs)⟩
  refine ⟨s0, s1, h1, h2, s2, s3, fun e he => ?_, fun k e he => (hk k e he).2, fun s hs => of_decide_eq_true (List.all_eq_true.1 c s hs), fun s hs => of_decide_eq_true (List.all_eq_true.1 d s hs)⟩
  obtain ⟨k, hk', rfl⟩ := List.getElem_of_mem he
  exact (hk k _ (List.getElem?_eq_getElem hk')).1


end Go.Proofs.YtibjgoigdajkkaaDoor
