import Derived.Test.YtibjgoigdajkkaaDoorJ13
import Derived.Lib.MinMax
namespace Go.Proofs.YtibjgoigdajkkaaDoor
open Go.RowKit

/-- a row told by a function of its places -/
def tabL {α : Type} (m : Nat) (f : Nat → α) : List α := (List.range m).map f
theorem tabL_len {α : Type} (m : Nat) (f : Nat → α) : (tabL m f).length = m := by simp [tabL]
theorem tabL_get {α : Type} {m : Nat} {f : Nat → α} {i : Nat} (h : i < m) : (tabL m f)[i]? = some (f i) := by
  unfold tabL; rw [List.getElem?_map, List.getElem?_range h]; rfl
def upd {α : Type} (f : Nat → α) (i : Nat) (v : α) : Nat → α := fun j => if j = i then v else f j
theorem upd_same {α : Type} (f : Nat → α) (i : Nat) (v : α) : upd f i v i = v := by simp [upd]
theorem upd_ne {α : Type} {f : Nat → α} {i j : Nat} {v : α} (h : j ≠ i) : upd f i v j = f j := by simp [upd, h]
theorem tabL_congr {α : Type} {m : Nat} {f g : Nat → α} (h : ∀ i, i < m → f i = g i) : tabL m f = tabL m g := by
  unfold tabL; exact List.map_congr_left (fun i hi => h i (List.mem_range.1 hi))
theorem tabL_set {α : Type} (m : Nat) (f : Nat → α) (i : Nat) (v : α) : (tabL m f).set i v = tabL m (upd f i v) := by
  apply List.ext_getElem?
  intro k
  by_cases hk : k < m
  · rw [tabL_get hk]
    by_cases e : i = k
    · subst e
      rw [List.getElem?_set_self (by rw [tabL_len]; exact hk), upd_same]
    · rw [List.getElem?_set_ne e, tabL_get hk, upd_ne (fun h => e h.symm)]
  · rw [List.getElem?_eq_none (by rw [List.length_set, tabL_len]; omega), List.getElem?_eq_none (by rw [tabL_len]; omega)]
theorem tabA_get {m : Nat} {f : Nat → Value} {sp : List Value} {i : Nat} (h : i < m) : (tabL m f ++ sp).toArray[i]? = some (f i) := by
  rw [List.getElem?_toArray, List.getElem?_append_left (by rw [tabL_len]; exact h), tabL_get h]
theorem tabA_set {m : Nat} {f : Nat → Value} {sp : List Value} {i : Nat} {v : Value} (h : i < m) : (tabL m f ++ sp).toArray.setIfInBounds i v = (tabL m (upd f i v) ++ sp).toArray := by
  rw [List.setIfInBounds_toArray, List.set_append_left i v (by rw [tabL_len]; exact h), tabL_set]
theorem tab_get {m : Nat} {f : Nat → Value} {i : Nat} (h : i < m) : (tabL m f).toArray[i]? = some (f i) := by
  rw [List.getElem?_toArray, tabL_get h]
theorem tab_set {m : Nat} {f : Nat → Value} {i : Nat} {v : Value} : (tabL m f).toArray.setIfInBounds i v = (tabL m (upd f i v)).toArray := by
  rw [List.setIfInBounds_toArray, tabL_set]
/-- how many numbers below n are so -/
def cntP : Nat → (Nat → Bool) → Nat
  | 0, _ => 0
  | n + 1, p => cntP n p + if p n then 1 else 0
theorem cnt_congr {n : Nat} {p q : Nat → Bool} (h : ∀ j, j < n → p j = q j) : cntP n p = cntP n q := by
  induction n with
  | zero => rfl
  | succ n ih => unfold cntP; rw [ih (fun j hj => h j (by omega)), h n (by omega)]
theorem cnt_le (n : Nat) (p : Nat → Bool) : cntP n p ≤ n := by
  induction n with
  | zero => exact Nat.le_refl _
  | succ n ih => unfold cntP; split <;> omega
theorem cnt_add {n : Nat} {p q : Nat → Bool} {i : Nat} (hi : i < n) (hp : p i = false) (hq : q i = true) (h : ∀ j, j < n → j ≠ i → q j = p j) : cntP n q = cntP n p + 1 := by
  induction n with
  | zero => omega
  | succ n ih =>
    unfold cntP
    by_cases e : i = n
    · subst e
      rw [cnt_congr (fun j hj => h j (by omega) (by omega)), hp, hq]
      simp
    · rw [ih (by omega) (fun j hj => h j (by omega)), h n (by omega) (fun h => e h.symm)]
      omega
theorem cnt_pos {n : Nat} {p : Nat → Bool} : 0 < cntP n p ↔ ∃ j, j < n ∧ p j = true := by
  induction n with
  | zero => constructor
            · intro h; exact absurd h (by unfold cntP; omega)
            · rintro ⟨j, hj, _⟩; omega
  | succ n ih =>
    unfold cntP
    constructor
    · intro h
      by_cases e : p n = true
      · exact ⟨n, by omega, e⟩
      · rw [if_neg e] at h
        obtain ⟨j, hj, hp⟩ := ih.1 h
        exact ⟨j, by omega, hp⟩
    · rintro ⟨j, hj, hp⟩
      by_cases e : j = n
      · subst e; rw [if_pos hp]; omega
      · have := ih.2 ⟨j, by omega, hp⟩; omega
theorem cnt_filter (n : Nat) (p : Nat → Bool) : ((List.range n).filter p).length = cntP n p := by
  induction n with
  | zero => rfl
  | succ n ih =>
    rw [List.range_succ, List.filter_append, List.length_append, ih, show cntP (n + 1) p = cntP n p + if p n then 1 else 0 from rfl]
    by_cases h : p n = true
    · rw [if_pos h]; simp [h]
    · rw [if_neg h]; simp [h]
/-- the last place below k that is not zero, or f -/
def untilK (t : Nat → Nat) (f : Nat) : Nat → Nat
  | 0 => f
  | k + 1 => if 0 < t k then k else untilK t f k
theorem untilK_spec (t : Nat → Nat) (f k : Nat) : (∃ c, c < k ∧ 0 < t c ∧ untilK t f k = c ∧ ∀ d, c < d → d < k → t d = 0) ∨ ((∀ d, d < k → t d = 0) ∧ untilK t f k = f) := by
  induction k with
  | zero => exact Or.inr ⟨fun d hd => by omega, rfl⟩
  | succ k ih =>
    unfold untilK
    by_cases h : 0 < t k
    · rw [if_pos h]; exact Or.inl ⟨k, by omega, h, rfl, fun d h1 h2 => by omega⟩
    · rw [if_neg h]
      rcases ih with ⟨c, h1, h2, h3, h4⟩ | ⟨h1, h2⟩
      · exact Or.inl ⟨c, by omega, h2, h3, fun d g1 g2 => by
          by_cases e : d = k
          · subst e; omega
          · exact h4 d g1 (by omega)⟩
      · exact Or.inr ⟨fun d hd => by
          by_cases e : d = k
          · subst e; omega
          · exact h1 d (by omega), h2⟩
theorem untilK_ge {t : Nat → Nat} {f k c : Nat} (hc : c < k) (h : 0 < t c) : c ≤ untilK t f k := by
  rcases untilK_spec t f k with ⟨c', h1, _, h3, h4⟩ | ⟨h1, h2⟩
  · rw [h3]
    by_cases e : c' < c
    · have := h4 c e hc; omega
    · omega
  · have := h1 c hc; omega
/-- the first place that is not zero, one ahead of it -/
def latK (t : Nat → Nat) (c : Nat) : Nat → Nat
  | 0 => c
  | k + 1 => if t (c + 1) = 0 then latK t (c + 1) k else c
theorem latK_spec (t : Nat → Nat) (c k : Nat) (h : ∃ d, c < d ∧ d ≤ c + k ∧ t d ≠ 0) : c ≤ latK t c k ∧ latK t c k < c + k ∧ t (latK t c k + 1) ≠ 0 ∧ ∀ d, c < d → d ≤ latK t c k → t d = 0 := by
  induction k generalizing c with
  | zero => obtain ⟨d, h1, h2, _⟩ := h; omega
  | succ k ih =>
    unfold latK
    by_cases e : t (c + 1) = 0
    · rw [if_pos e]
      obtain ⟨d, h1, h2, h3⟩ := h
      have hd : d ≠ c + 1 := fun h => h3 (h ▸ e)
      obtain ⟨g1, g2, g3, g4⟩ := ih (c + 1) ⟨d, by omega, by omega, h3⟩
      exact ⟨by omega, by omega, g3, fun x hx1 hx2 => by
        by_cases ex : x = c + 1
        · rw [ex]; exact e
        · exact g4 x (by omega) hx2⟩
    · rw [if_neg e]
      exact ⟨by omega, by omega, e, fun d h1 h2 => by omega⟩


end Go.Proofs.YtibjgoigdajkkaaDoor

namespace Go.Proofs.YtibjgoigdajkkaaDoor
open Go.RowKit


theorem exq {α : Type} (a : α) : ∃ x, x = a := ⟨_, rfl⟩
structure PnS where
  C : Nat
  pb : Nat
  ib : Nat
  lb : Nat
  nb : Nat
  ia : Option Addr
  icap : Nat
  spare : List Value
  n : Nat
  first : Nat
  cc : Nat
  sh : ShD
  sig : Nat → Nat
  a : Nat → Option Addr
  c : Nat → Nat
  ins : Nat → List Nat
  isEnd : Nat → Bool
/-- what of it is changed -/
structure PnT where
  col : Nat → Int
  tb : Nat → Nat
  tk : Nat → Nat → Nat
  ld : Nat → Int
def itC (D : PnS) (T : PnT) (m : Nat) : Value :=
  match m % 5 with
  | 0 => .int .i64 (D.sig (m / 5))
  | 1 => .slice (D.a (m / 5)) (D.ins (m / 5)).length (D.c (m / 5))
  | 2 => .bool (D.isEnd (m / 5))
  | 3 => .int .i64 (T.col (m / 5))
  | _ => .slice (some ⟨T.tb (m / 5), 0, none⟩) (D.cc + 1) (D.cc + 1)
theorem itC_at (D : PnS) (T : PnT) (i : Nat) : itC D T (i * 5) = .int .i64 (D.sig i) ∧ itC D T (i * 5 + 1) = .slice (D.a i) (D.ins i).length (D.c i) ∧ itC D T (i * 5 + 2) = .bool (D.isEnd i) ∧ itC D T (i * 5 + 3) = .int .i64 (T.col i) ∧ itC D T (i * 5 + 4) = .slice (some ⟨T.tb i, 0, none⟩) (D.cc + 1) (D.cc + 1) := by
  unfold itC
  rw [show i * 5 % 5 = 0 by omega, show (i * 5 + 1) % 5 = 1 by omega, show (i * 5 + 2) % 5 = 2 by omega, show (i * 5 + 3) % 5 = 3 by omega, show (i * 5 + 4) % 5 = 4 by omega, show i * 5 / 5 = i by omega, show (i * 5 + 1) / 5 = i by omega, show (i * 5 + 2) / 5 = i by omega, show (i * 5 + 3) / 5 = i by omega, show (i * 5 + 4) / 5 = i by omega]
  exact ⟨rfl, rfl, rfl, rfl, rfl⟩
def plC (D : PnS) : Array Value := #[.pointer (some ⟨D.nb, 0, none⟩), .int .i64 D.sh.ins, .int .i64 D.sh.outs, .int .i64 D.sh.regs, .int .i64 D.sh.rows, .int .i64 D.sh.cols, .slice D.ia D.n D.icap, .int .i64 D.first, .slice (some ⟨D.lb, 0, none⟩) D.cc D.cc]
/-- a plan whose shape and items are there -/
structure PlBase (D : PnS) (w : World) : Prop where
  sz : D.C ≤ w.heap.size
  lt : D.pb < D.C ∧ D.ib < D.C ∧ D.lb < D.C
  ne : D.pb ≠ D.ib ∧ D.pb ≠ D.lb ∧ D.ib ≠ D.lb
  ia : 0 < D.n → D.ia = some ⟨D.ib, 0, none⟩
  nn : D.n ≤ 1048576
  cc : D.sh.cols = D.cc ∧ 1 ≤ D.cc ∧ D.cc ≤ 100
  rw_ : 1 ≤ D.sh.rows ∧ D.sh.rows ≤ 500
  fst : D.first ≤ D.n
  pl : Blk w D.pb 83 (plC D)
  ins : ∀ i, i < D.n → ∀ k x, (D.ins i)[k]? = some x → ∃ b o, D.a i = some ⟨b, o, none⟩ ∧ b < D.C ∧ b ≠ D.ib ∧ b ≠ D.lb ∧ w.cell? ⟨b, o + k, none⟩ = some (.int .i64 (x : Nat))
  insn : ∀ i, i < D.n → ∀ x, x ∈ D.ins i → x < i
  insd : ∀ i, i < D.n → (D.ins i).Nodup
  insl : ∀ i, i < D.n → (D.ins i).length ≤ 4
structure PlAt (D : PnS) (w : World) (T : PnT) : Prop where
  bs : PlBase D w
  it : 0 < D.n → Blk w D.ib 89 (tabL (D.n * 5) (itC D T) ++ D.spare).toArray
  ld : Blk w D.lb 3 (tabL D.cc fun c => .int .i64 (T.ld c)).toArray
  tk : ∀ i, i < D.n → D.C ≤ T.tb i ∧ Blk w (T.tb i) 21 (tabL (D.cc + 1) fun c => .int .i32 (T.tk i c : Nat)).toArray
  dj : ∀ i j, i < D.n → j < D.n → T.tb i = T.tb j → i = j
  col : ∀ i, i < D.n → -1 ≤ T.col i ∧ T.col i < D.cc
  tkb : ∀ i c, i < D.n → T.tk i c ≤ 1048577
  ldb : ∀ c, -2097152 ≤ T.ld c ∧ T.ld c ≤ 2097152
theorem PlBase.c6 {D : PnS} {w : World} (h : PlBase D w) : w.cell? ⟨D.pb, 6, none⟩ = some (.slice D.ia D.n D.icap) := h.pl.cell (i := 6) rfl
theorem PlBase.c7 {D : PnS} {w : World} (h : PlBase D w) : w.cell? ⟨D.pb, 7, none⟩ = some (.int .i64 D.first) := h.pl.cell (i := 7) rfl
theorem PlBase.c8 {D : PnS} {w : World} (h : PlBase D w) : w.cell? ⟨D.pb, 8, none⟩ = some (.slice (some ⟨D.lb, 0, none⟩) D.cc D.cc) := h.pl.cell (i := 8) rfl
theorem PlBase.c4 {D : PnS} {w : World} (h : PlBase D w) : w.cell? ⟨D.pb, 4, none⟩ = some (.int .i64 D.sh.rows) := h.pl.cell (i := 4) rfl
theorem PlBase.c5 {D : PnS} {w : World} (h : PlBase D w) : w.cell? ⟨D.pb, 5, none⟩ = some (.int .i64 D.sh.cols) := h.pl.cell (i := 5) rfl
theorem PlAt.itm {D : PnS} {w : World} {T : PnT} (h : PlAt D w T) {i j : Nat} (hi : i < D.n) (hj : j < 5) : w.cell? ⟨D.ib, i * 5 + j, none⟩ = some (itC D T (i * 5 + j)) :=
  (h.it (by omega)).cell (tabA_get (by omega))
theorem PlAt.i0 {D : PnS} {w : World} {T : PnT} (h : PlAt D w T) {i : Nat} (hi : i < D.n) : w.cell? ⟨D.ib, i * 5, none⟩ = some (.int .i64 (D.sig i)) := by
  rw [← (itC_at D T i).1]; exact h.itm (j := 0) hi (by decide)
theorem PlAt.i1 {D : PnS} {w : World} {T : PnT} (h : PlAt D w T) {i : Nat} (hi : i < D.n) : w.cell? ⟨D.ib, i * 5 + 1, none⟩ = some (.slice (D.a i) (D.ins i).length (D.c i)) := by
  rw [← (itC_at D T i).2.1]; exact h.itm (j := 1) hi (by decide)
theorem PlAt.i2 {D : PnS} {w : World} {T : PnT} (h : PlAt D w T) {i : Nat} (hi : i < D.n) : w.cell? ⟨D.ib, i * 5 + 2, none⟩ = some (.bool (D.isEnd i)) := by
  rw [← (itC_at D T i).2.2.1]; exact h.itm (j := 2) hi (by decide)
theorem PlAt.i3 {D : PnS} {w : World} {T : PnT} (h : PlAt D w T) {i : Nat} (hi : i < D.n) : w.cell? ⟨D.ib, i * 5 + 3, none⟩ = some (.int .i64 (T.col i)) := by
  rw [← (itC_at D T i).2.2.2.1]; exact h.itm (j := 3) hi (by decide)
theorem PlAt.i4 {D : PnS} {w : World} {T : PnT} (h : PlAt D w T) {i : Nat} (hi : i < D.n) : w.cell? ⟨D.ib, i * 5 + 4, none⟩ = some (.slice (some ⟨T.tb i, 0, none⟩) (D.cc + 1) (D.cc + 1)) := by
  rw [← (itC_at D T i).2.2.2.2]; exact h.itm (j := 4) hi (by decide)
theorem PlAt.tkc {D : PnS} {w : World} {T : PnT} (h : PlAt D w T) {i c : Nat} (hi : i < D.n) (hc : c < D.cc + 1) : w.cell? ⟨T.tb i, c, none⟩ = some (.int .i32 (T.tk i c : Nat)) :=
  (h.tk i hi).2.cell (tab_get hc)
theorem PlAt.ldc {D : PnS} {w : World} {T : PnT} (h : PlAt D w T) {c : Nat} (hc : c < D.cc) : w.cell? ⟨D.lb, c, none⟩ = some (.int .i64 (T.ld c)) :=
  h.ld.cell (tab_get hc)
set_option maxRecDepth 100000 in
set_option maxHeartbeats 8000000 in
theorem from_any (D : PnS) (T : PnT) (w : World) (h : PlAt D w T) (i : Nat) (hi : i < D.n) :
    Calls Tryd.prog 63 #[.pointer (some ⟨D.pb, 0, none⟩), .int .i64 i] w fun e w' => e = .returned (.int .i64 ((T.col i).toNat : Int)) ∧ w' = w := by
  have c6 := h.bs.c6
  rw [h.bs.ia (by omega)] at c6
  have c3 := h.i3 hi
  have hiI : (i : Int) < (D.n : Int) := by omega
  obtain ⟨pb, epb⟩ := exq D.pb
  obtain ⟨ib, eib⟩ := exq D.ib
  obtain ⟨n, en⟩ := exq D.n
  rw [← epb, ← eib, ← en] at c6
  rw [← eib] at c3
  rw [← epb]
  rw [← en] at hiI
  generalize T.col i = cl at *
  clear h hi epb eib en
  go_enter Tryd.func63, Tryd.ntmps63
  go_wp2
  go_ret
  exact ⟨ret_int (by omega), rfl⟩


end Go.Proofs.YtibjgoigdajkkaaDoor

namespace Go.Proofs.YtibjgoigdajkkaaDoor
open Go.RowKit

def untilN (D : PnS) (T : PnT) (i : Nat) : Nat := untilK (T.tk i) (T.col i).toNat (D.cc + 1)
set_option maxRecDepth 100000 in
set_option maxHeartbeats 8000000 in
theorem until_any (D : PnS) (T : PnT) (w : World) (h : PlAt D w T) (i : Nat) (hi : i < D.n) :
    Calls Tryd.prog 62 #[.pointer (some ⟨D.pb, 0, none⟩), .int .i64 i] w fun e w' => e = .returned (.int .i64 (untilN D T i : Nat)) ∧ w' = w := by
  have FR := hidden (from_any D T w h i hi)
  have c6 := h.bs.c6
  rw [h.bs.ia (by omega)] at c6
  have c4 := h.i4 hi
  have hiI : (i : Int) < (D.n : Int) := by omega
  have HT : Hid (∀ c, c < D.cc + 1 → w.cell? ⟨T.tb i, c, none⟩ = some (.int .i32 (T.tk i c : Nat))) := fun c hc => h.tkc hi hc
  have hcc := h.bs.cc.2.2
  unfold untilN
  generalize D.pb = pb at *
  generalize D.ib = ib at *
  generalize D.n = n at *
  generalize D.cc = cc at *
  generalize T.tb i = tb at *
  generalize T.tk i = tk at *
  generalize (T.col i).toNat = f at *
  obtain ⟨r, HR⟩ : ∃ r, Hid (untilK tk f (cc + 1) = r) := ⟨_, rfl⟩
  rw [HR.out]
  clear h hi
  have e0 : IntKind.i64.wrap (((cc : Int) + 1) - 1) = (cc : Int) := by rw [wrapI _ (by omega) (by omega)]; omega
  go_enter Tryd.func62, Tryd.ntmps62
  go_wp2_with fail
  go_loopw [6] (fun c' w' => ∃ (k : Nat), k ≤ cc + 1 ∧ c' = .int .i64 ((k : Int) - 1) ∧ Hid (untilK tk f k = r) ∧ Hid (w' = w)) (fun c' _ => (intOf c' + 1).toNat)
  case atStart => exact ⟨cc + 1, Nat.le_refl _, by simp, HR.out, rfl⟩
  case round =>
    obtain ⟨k, hk, rfl, HU, HW⟩ := hrel
    obtain rfl := HW.out
    cases k with
    | zero =>
      have HRF : Hid (f = r) := HU.out
      have hz : ¬ (0 : Int) ≤ -1 := by omega
      have e1 : ((0 : Nat) : Int) - 1 = -1 := by omega
      rw [e1]
      clear HU HW
      go_wp2_with (go_at_call 63; refine FR.out.mono ?_; rintro e v ⟨rfl, rfl⟩)
      go_wp2
      go_ret
      exact ⟨ret_int (by rw [HRF.out]), rfl⟩
    | succ k =>
      have e1 : ((k + 1 : Nat) : Int) - 1 = (k : Int) := by omega
      rw [e1]
      have hz : (0 : Int) ≤ (k : Int) := by omega
      have ct := HT.out k (by omega)
      have hkc : (k : Int) < (cc : Int) + 1 := by omega
      have e2 : IntKind.i64.wrap ((k : Int) - 1) = (k : Int) - 1 := wrapI _ (by omega) (by omega)
      clear HW e1
      by_cases hp : 0 < tk k
      · have HRF : Hid (k = r) := by
          have := HU.out; unfold untilK at this; rw [if_pos hp] at this; exact this
        have hpI : (0 : Int) < ((tk k : Nat) : Int) := by omega
        generalize tk k = x at *
        clear HU hp
        go_wp2
        go_ret
        exact ⟨ret_int (by rw [HRF.out]), rfl⟩
      · have HRF : Hid (untilK tk f k = r) := by
          have := HU.out; unfold untilK at this; rw [if_neg hp] at this; exact this
        have hpI : ¬ (0 : Int) < ((tk k : Nat) : Int) := by omega
        generalize tk k = x at *
        clear HU hp
        go_wp2
        go_roundw
        case measure => simp [intOf]
        case rel => exact ⟨k, by omega, rfl, HRF.out, True.intro⟩
def latN (D : PnS) (T : PnT) (i : Nat) : Nat := latK (T.tk i) 0 D.cc
set_option maxRecDepth 100000 in
set_option maxHeartbeats 8000000 in
theorem latest_any (D : PnS) (T : PnT) (w : World) (h : PlAt D w T) (i : Nat) (hi : i < D.n) (hex : ∃ d, 0 < d ∧ d ≤ D.cc ∧ T.tk i d ≠ 0) :
    Calls Tryd.prog 57 #[.pointer (some ⟨D.pb, 0, none⟩), .int .i64 i] w fun e w' => e = .returned (.int .i64 (latN D T i : Nat)) ∧ w' = w := by
  have c6 := h.bs.c6
  rw [h.bs.ia (by omega)] at c6
  have c4 := h.i4 hi
  have hiI : (i : Int) < (D.n : Int) := by omega
  have HT : Hid (∀ c, c < D.cc + 1 → w.cell? ⟨T.tb i, c, none⟩ = some (.int .i32 (T.tk i c : Nat))) := fun c hc => h.tkc hi hc
  have hcc := h.bs.cc.2.2
  unfold latN
  generalize D.pb = pb at *
  generalize D.ib = ib at *
  generalize D.n = n at *
  generalize D.cc = cc at *
  generalize T.tb i = tb at *
  generalize T.tk i = tk at *
  have SP := hidden (latK_spec tk 0 cc (by obtain ⟨d, h1, h2, h3⟩ := hex; exact ⟨d, h1, by omega, h3⟩))
  generalize latK tk 0 cc = r at *
  have hr := SP.out.2.1
  clear h hi hex
  go_enter Tryd.func57, Tryd.ntmps57
  go_wp2_with fail
  go_loopw [5] (fun c' w' => ∃ (k : Nat), k ≤ r ∧ c' = .int .i64 (k : Int) ∧ Hid (w' = w)) (fun c' _ => r - (intOf c').toNat)
  case atStart => exact ⟨0, Nat.zero_le _, rfl, rfl⟩
  case round =>
    obtain ⟨k, hk, rfl, HW⟩ := hrel
    obtain rfl := HW.out
    have ct := HT.out (k + 1) (by omega)
    have hkc : (k : Int) + 1 < (cc : Int) + 1 := by omega
    have e2 : IntKind.i64.wrap ((k : Int) + 1) = ((k + 1 : Nat) : Int) := by rw [wrapI _ (by omega) (by omega)]; omega
    have hkc2 : ((k + 1 : Nat) : Int) < (cc : Int) + 1 := by omega
    clear HW
    by_cases hp : k < r
    · have hz : tk (k + 1) = 0 := SP.out.2.2.2 (k + 1) (by omega) (by omega)
      rw [hz] at ct
      go_wp2
      go_roundw
      case measure => simp [intOf]; omega
      case rel => exact ⟨k + 1, by omega, rfl, True.intro⟩
    · obtain rfl : k = r := by omega
      have hz : tk (k + 1) ≠ 0 := SP.out.2.2.1
      have hzI : ¬ ((tk (k + 1) : Nat) : Int) = 0 := by omega
      generalize tk (k + 1) = x at *
      clear hz
      go_wp2
      go_ret
      exact ⟨rfl, rfl⟩


end Go.Proofs.YtibjgoigdajkkaaDoor
