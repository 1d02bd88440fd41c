import Derived.Test.YtefjicdhccfieaaK01
import Derived.Test.YtefjicdhccfieaaK21
set_option maxRecDepth 100000
set_option maxHeartbeats 16000000
namespace Go.Proofs.Ytefjicdhccfieaa
open Go.RowKit
def litN (n : Int) : Nat := if n < 0 then 2 * (n.natAbs - 1) + 1 else 2 * (n.natAbs - 1)
def oppN (m : Nat) : Nat := if m % 2 = 0 then m + 1 else m - 1
theorem wrap32 (n : Int) (h1 : -2147483648 ≤ n) (h2 : n ≤ 2147483647) : IntKind.i32.wrap n = n := by
 rw [IntKind.wrap_i32]; omega
theorem nat_xor_one (m : Nat) : m ^^^ 1 = oppN m := by
 unfold oppN
 apply Nat.eq_of_testBit_eq
 intro i
 rw [Nat.testBit_xor]
 cases i with
 | zero =>
  by_cases h : m % 2 = 0
  ·rw [if_pos h, Nat.testBit_zero, Nat.testBit_zero, Nat.testBit_zero, show (m + 1) % 2 = 1 by omega, h]; rfl
  ·rw [if_neg h, Nat.testBit_zero, Nat.testBit_zero, Nat.testBit_zero, show (m - 1) % 2 = 0 by omega, show m % 2 = 1 by omega]; rfl
 | succ i =>
  rw [Nat.testBit_succ, Nat.testBit_succ, Nat.testBit_succ]
  by_cases h : m % 2 = 0
  ·rw [if_pos h, show (m + 1) / 2 = m / 2 by omega]; simp
  ·rw [if_neg h, show (m - 1) / 2 = m / 2 by omega]; simp
theorem xor_one (m : Nat) (h : m ≤ 200000) : bits BinOp.xor IntKind.i32 (m : Int) 1 = ((oppN m : Nat) : Int) := by
 rw [← nat_xor_one]
 have h1 : m ^^^ 1 ≤ 200001 := by rw [nat_xor_one]; unfold oppN; split <;> omega
 have e : (BitVec.ofInt 32 (m : Int) ^^^ BitVec.ofInt 32 1).toNat = m ^^^ 1 := by
  rw [BitVec.toNat_xor]
  rw [show BitVec.ofInt 32 (m : Int) = BitVec.ofNat 32 m by simp]
  rw [BitVec.toNat_ofNat, Nat.mod_eq_of_lt (by omega)]
  rfl
 show IntKind.i32.wrap (((BitVec.ofInt 32 (m : Int) ^^^ BitVec.ofInt 32 1).toNat : Nat) : Int) = _
 rw [e]
 exact wrap32 _ (by omega) (by omega)
theorem literalOf_any (w : World) (n : Int) (h0 : n ≠ 0) (h1 : n.natAbs ≤ 100000) :
  Calls Try.prog 43 #[.int .i64 n] w fun e w' => e = .returned (.int .i32 (litN n)) ∧ w' = w := by
 obtain ⟨m, hm⟩ : ∃ m, m = litN n := ⟨_, rfl⟩
 rw [← hm]
 unfold litN at hm
 by_cases hn : n < 0
 ·rw [if_pos hn] at hm
  have hmI : (m : Int) = 2 * (-n - 1) + 1 := by omega
  have e1 : IntKind.i64.wrap (-n) = -n := wrapI _ (by omega) (by omega)
  have e2 : IntKind.i64.wrap (-n - 1) = -n - 1 := wrapI _ (by omega) (by omega)
  have e3 : IntKind.i64.wrap (2 * (-n - 1)) = 2 * (-n - 1) := wrapI _ (by omega) (by omega)
  have e4 : IntKind.i64.wrap (2 * (-n - 1) + 1) = 2 * (-n - 1) + 1 := wrapI _ (by omega) (by omega)
  have e5 : IntKind.i32.wrap (2 * (-n - 1) + 1) = (m : Int) := by rw [← hmI]; exact wrap32 _ (by omega) (by omega)
  clear hm hmI
  go_enter Try.func43, Try.ntmps43
  go_wp2
  go_ret
  exact ⟨rfl, rfl⟩
 ·rw [if_neg hn] at hm
  have hmI : (m : Int) = 2 * (n - 1) := by omega
  have e2 : IntKind.i64.wrap (n - 1) = n - 1 := wrapI _ (by omega) (by omega)
  have e3 : IntKind.i64.wrap (2 * (n - 1)) = 2 * (n - 1) := wrapI _ (by omega) (by omega)
  have e5 : IntKind.i32.wrap (2 * (n - 1)) = (m : Int) := by rw [← hmI]; exact wrap32 _ (by omega) (by omega)
  clear hm hmI
  go_enter Try.func43, Try.ntmps43
  go_wp2
  go_ret
  exact ⟨rfl, rfl⟩
theorem variable_any (w : World) (m : Nat) (h : m ≤ 200000) :
  Calls Try.prog 71 #[.int .i32 m] w fun e w' => e = .returned (.int .i64 ((m / 2 : Nat) : Int)) ∧ w' = w := by
 go_enter Try.func71, Try.ntmps71
 go_wp2
 go_ret
 exact ⟨by simp [go_sem], rfl⟩
theorem opposite_any (w : World) (m : Nat) (h : m ≤ 200000) :
  Calls Try.prog 44 #[.int .i32 m] w fun e w' => e = .returned (.int .i32 (oppN m)) ∧ w' = w := by
 have e1 := xor_one m h
 generalize oppN m = r at *
 go_enter Try.func44, Try.ntmps44
 go_wp2
 go_ret
 exact ⟨rfl, rfl⟩
end Go.Proofs.Ytefjicdhccfieaa

set_option maxRecDepth 100000
set_option maxHeartbeats 16000000
namespace Go.Proofs.Ytefjicdhccfieaa
open Go.RowKit
theorem areClauses_any (B : Nat) (w : World) (a : Option Addr) (c : Nat) (v : Int) (hv0 : 0 ≤ v) (hv : v ≤ 100000) (cls : List CL) (h : ClAt B w a cls) :
  Calls Try.prog 15 #[.slice a cls.length c, .int .i64 v] w fun e w' => e = .returned (.bool (cls.all fun t => t.l.all (litOk v))) ∧ w' = w := by
 have HAT := hidden h
 have hlen : cls.length ≤ 16777216 := Nat.le_trans (total_len cls) h.tot
 have en : IntKind.i64.wrap (-v) = -v := wrapI _ (by omega) (by omega)
 obtain ⟨r, HR⟩ : ∃ r, Hid ((cls.all fun t => t.l.all (litOk v)) = r) := ⟨_, rfl⟩
 rw [HR.out]
 clear h
 go_enter Try.func15, Try.ntmps15
 go_wp2_with fail
 go_loopw [11] (fun i' w' => ∃ (k : Nat), k ≤ cls.length ∧ i' = .int .i64 k ∧ Hid ((cls.take k).all (fun t => t.l.all (litOk v)) = true) ∧ w = w') (fun i' _ => cls.length - (intOf i').toNat)
 case atStart => exact ⟨0, Nat.zero_le _, rfl, by simp [Hid], rfl⟩
 case round =>
  obtain ⟨k, hk, rfl, HA, rfl⟩ := hrel
  by_cases hlt : k < cls.length
  ·obtain ⟨t, hz⟩ := getElem_lt hlt
   obtain ⟨tb, tz, ea, htb, htc⟩ := HAT.out.row.el hz
   subst ea
   have htm := List.mem_of_getElem? hz
   have HN := hidden (all_next (fun t : CL => t.l.all (litOk v)) cls k t hz)
   have HX : Hid (t.l.all (litOk v) = false → r = false) := fun e => by
    rw [← HR.out, Bool.eq_false_iff]; intro h
    have := List.all_eq_true.1 h t htm
    rw [e] at this; cases this
   have htl := total_one cls k t hz
   have htt := HAT.out.tot
   have htl' : t.l.length ≤ 16777216 := by omega
   have HTR : Hid (RowAt B _ t.a 1 (t.l.map intC)) := HAT.out.each t htm
   have c0 := htc 0 _ rfl
   simp at c0
   have hltI : (k : Int) < (cls.length : Int) := by omega
   have e3 : IntKind.i64.wrap ((k : Int) + 1) = (k : Int) + 1 := wrapI _ (by omega) (by omega)
   clear hz htc htm htl htt
   obtain ⟨l, HL⟩ : ∃ l, Hid (t.l = l) := ⟨_, rfl⟩
   rw [HL.out] at c0 HTR HX HN htl'
   generalize t.a = tA at *
   generalize t.c = tC at *
   clear HL
   go_wp2_with fail
   clear c0
   go_loopw [17] (fun j' w' => ∃ (j : Nat), j ≤ l.length ∧ j' = .int .i64 j ∧ Hid ((l.take j).all (litOk v) = true) ∧ w = w') (fun j' _ => l.length - (intOf j').toNat)
   case atStart => exact ⟨0, Nat.zero_le _, rfl, by simp [Hid], rfl⟩
   case round =>
    obtain ⟨j, hj, rfl, HJ, rfl⟩ := hrel
    by_cases hjt : j < l.length
    ·obtain ⟨x, hx⟩ := getElem_lt hjt
     obtain ⟨rb, ro, era, -, cx⟩ := HTR.out.intR hx
     subst era
     have HM := hidden (all_next (litOk v) l j x hx)
     have HY : Hid (litOk v x = false → r = false) := fun e => HX.out (by
      rw [Bool.eq_false_iff]; intro h
      have := List.all_eq_true.1 h x (List.mem_of_getElem? hx)
      rw [e] at this; cases this)
     have hjI : (j : Int) < (l.length : Int) := by omega
     have ej : IntKind.i64.wrap ((j : Int) + 1) = (j : Int) + 1 := wrapI _ (by omega) (by omega)
     clear hx HX HN
     by_cases h0 : x = 0
     ·obtain rfl := HY.out (by simp [litOk]; omega)
      subst h0
      clear HM HY
      go_wp2
      go_ret
      exact ⟨rfl, rfl⟩
     by_cases h2 : x < -v
     ·obtain rfl := HY.out (by simp [litOk]; omega)
      clear HM HY
      go_wp2
      go_ret
      exact ⟨rfl, rfl⟩
     by_cases h1 : v < x
     ·obtain rfl := HY.out (by simp [litOk]; omega)
      clear HM HY
      go_wp2
      go_ret
      exact ⟨rfl, rfl⟩
     have HA2 : Hid ((l.take (j + 1)).all (litOk v) = true) := by
      show _ = _
      rw [HM.out, HJ.out]
      simp [litOk]; omega
     clear HM HJ HY
     go_wp2
     go_roundw
     case measure => simp [intOf]; omega
     case rel => exact ⟨j + 1, by omega, by simp, HA2.out, by first | rfl | trivial⟩
    ·have hge : ¬ ((j : Int) < (l.length : Int)) := by omega
     have HA2 : Hid ((cls.take (k + 1)).all (fun t => t.l.all (litOk v)) = true) := by
      show _ = _
      have h2 := HJ.out
      rw [List.take_of_length_le (by omega)] at h2
      rw [HN.out, HA.out, h2]; rfl
     clear HX HN HJ
     go_wp2
     go_roundw
     case measure => simp [intOf]; omega
     case rel => exact ⟨k + 1, by omega, by simp, HA2.out, by first | rfl | trivial⟩
  ·have hge : ¬ ((k : Int) < (cls.length : Int)) := by omega
   have HF : Hid (r = true) := by
    have := HA.out
    rw [List.take_of_length_le (by omega)] at this
    show _ = _
    rw [← HR.out]; exact this
   obtain rfl := HF.out
   clear HA
   go_wp2
   go_ret
   exact ⟨rfl, rfl⟩
end Go.Proofs.Ytefjicdhccfieaa

set_option maxRecDepth 100000
set_option maxHeartbeats 16000000
namespace Go.Proofs.Ytefjicdhccfieaa
open Go.RowKit
inductive Site
 | held | reason | used | trail | clauses
 | row (t : Nat)
 | lits (i : Nat)
 | wl (t l : Nat)
 deriving DecidableEq
def Site.ty : Site → TypeId
 | .held => 84
 | .reason => 21
 | .used => 4
 | .trail => 77
 | .clauses => 80
 | .row _ => 86
 | .lits _ => 77
 | .wl _ _ => 118
def Site.sz : Site → Nat
 | .clauses => 4
 | .wl _ _ => 2
 | _ => 1
structure Slot where
 v : Value
 n : Nat
 xs : List Value
def setS (sl : Site → Slot) (s : Site) (x : Slot) : Site → Slot := fun s' => if s' = s then x else sl s'
theorem setS_same (sl : Site → Slot) (s : Site) (x : Slot) : setS sl s x s = x := by simp [setS]
theorem setS_other (sl : Site → Slot) {s s' : Site} (x : Slot) (h : s' ≠ s) : setS sl s x s' = sl s' := by simp [setS, h]
theorem setS_self (sl : Site → Slot) (s : Site) : setS sl s (sl s) = sl := by
 funext s'
 unfold setS
 split
 ·next h => rw [h]
 ·rfl
theorem setS_twice (sl : Site → Slot) (s : Site) (x y : Slot) : setS (setS sl s x) s y = setS sl s y := by
 funext s'
 unfold setS
 split <;> rfl
structure Rows' (B : Nat) (w : World) (bb : Nat) (cs : Array Value) (sl : Site → Slot) : Prop where
 rows : ∀ s, w.ownsRow B s.ty s.sz (sl s).v (sl s).n (sl s).xs
 sep : ∀ s s' k, (sl s).v.ownBlock = some k → (sl s').v.ownBlock = some k → s = s'
 nb : ∀ s, (sl s).v.ownBlock ≠ some bb
 board : w.heap[bb]? = some (.cells cs 73 (0, 0))
 base : B ≤ bb
theorem Rows'.lt {B : Nat} {w : World} {bb : Nat} {cs : Array Value} {sl : Site → Slot} (h : Rows' B w bb cs sl) : bb < w.heap.size := (Array.getElem?_eq_some_iff.1 h.board).1
theorem Rows'.size {B : Nat} {w : World} {bb : Nat} {cs : Array Value} {sl : Site → Slot} (h : Rows' B w bb cs sl) : B ≤ w.heap.size := by have := h.lt; have := h.base; omega
theorem Rows'.field {B : Nat} {w : World} {bb : Nat} {cs : Array Value} {sl : Site → Slot} (h : Rows' B w bb cs sl) (j : Nat) : w.cell? ⟨bb, j, none⟩ = cs[j]? := cell_of_row w bb j cs _ (0, 0) h.board
theorem Rows'.soft {B : Nat} {w : World} {bb : Nat} {cs : Array Value} {sl : Site → Slot} (h : Rows' B w bb cs sl) (j : Nat) : w.frozen? ⟨bb, j, none⟩ = false := frozen_of_row w bb j cs _ h.board
theorem Rows'.setB {B : Nat} {w : World} {bb : Nat} {cs : Array Value} {sl : Site → Slot} (h : Rows' B w bb cs sl) (j : Nat) (u : Value) : Rows' B (w.setCell ⟨bb, j, none⟩ u) bb (cs.setIfInBounds j u) sl := by
 have hg := gset w bb j u
 exact ⟨fun s => (h.rows s).kept hg (.inr (h.nb s)), h.sep, h.nb, heap_setCell_same w bb j cs _ u h.board, h.base⟩
theorem Rows'.grow {B : Nat} {w w' : World} {bb : Nat} {cs : Array Value} {sl : Site → Slot} (h : Rows' B w bb cs sl) (s : Site) (x : Slot) (hg : w.grownBy w' (sl s).v.ownBlock) (hx : w'.ownsRow B s.ty s.sz x.v x.n x.xs) (hat : ∀ k, x.v.ownBlock = some k → (sl s).v.ownBlock = some k ∨ w.heap.size ≤ k) : Rows' B w' bb cs (setS sl s x) := by
 have hlt := h.lt
 refine ⟨fun s' => ?_, fun s1 s2 k h1 h2 => ?_, fun s' hk => ?_, ?_, h.base⟩
 ·by_cases e : s' = s
  ·subst e; rw [setS_same]; exact hx
  ·rw [setS_other sl x e]
   refine (h.rows s').kept hg ?_
   cases hv : (sl s').v.ownBlock with
   | none => exact .inl rfl
   | some k => exact .inr (fun e2 => e (h.sep s' s k hv e2.symm))
 ·by_cases e1 : s1 = s
  ·by_cases e2 : s2 = s
   ·rw [e1, e2]
   ·subst e1
    rw [setS_same] at h1
    rw [setS_other sl x e2] at h2
    rcases hat k h1 with h3 | h3
    ·exact h.sep _ _ k h3 h2
    ·have := ((h.rows s2).lt k h2).2; omega
  ·by_cases e2 : s2 = s
   ·subst e2
    rw [setS_same] at h2
    rw [setS_other sl x e1] at h1
    rcases hat k h2 with h3 | h3
    ·exact h.sep _ _ k h1 h3
    ·have := ((h.rows s1).lt k h1).2; omega
   ·rw [setS_other sl x e1] at h1
    rw [setS_other sl x e2] at h2
    exact h.sep _ _ k h1 h2
 ·by_cases e : s' = s
  ·subst e
   rw [setS_same] at hk
   rcases hat _ hk with h3 | h3
   ·exact h.nb _ h3
   ·omega
  ·rw [setS_other sl x e] at hk
   exact h.nb _ hk
 ·rw [hg.block bb hlt (fun e => h.nb s e.symm)]; exact h.board
theorem Rows'.rest {B : Nat} {w w' : World} {bb : Nat} {cs : Array Value} {sl : Site → Slot} (h : Rows' B w bb cs sl) (hb : Below w.heap.size w w') : Rows' B w' bb cs sl :=
 ⟨fun s => (h.rows s).kept (gbel hb none) (by cases (sl s).v.ownBlock <;> simp), h.sep, h.nb, by rw [hb.block bb h.lt]; exact h.board, h.base⟩
theorem Rows'.form {B : Nat} {w : World} {bb : Nat} {cs : Array Value} {sl : Site → Slot} (h : Rows' B w bb cs sl) (s : Site) (hn : 0 < (sl s).n) : ∃ g cap, (sl s).v = .slice (some ⟨g, 0, none⟩) (sl s).n cap ∧ B ≤ g ∧ g < w.heap.size ∧ (sl s).n ≤ cap ∧ (∀ j, j < (sl s).n * s.sz → w.cell? ⟨g, j, none⟩ = (sl s).xs[j]?) ∧ (∀ j, w.frozen? ⟨g, j, none⟩ = false) := by
 have hr := h.rows s
 rcases hr.2 with ⟨_, h0⟩ | ⟨g, cap, cur, hv, hb, hg, hc, _⟩
 ·omega
 ·refine ⟨g, cap, hv, hb, (Array.getElem?_eq_some_iff.1 hg).1, hc, fun j hj => ?_, fun j => ?_⟩
  ·rw [hv] at hr; exact hr.cellAt j hj
  ·rw [hv] at hr; exact hr.frozenAt j
theorem Rows'.setR {B : Nat} {w : World} {bb : Nat} {cs : Array Value} {sl : Site → Slot} (h : Rows' B w bb cs sl) (s : Site) {g cap : Nat} (hv : (sl s).v = .slice (some ⟨g, 0, none⟩) (sl s).n cap) (j : Nat) (u : Value) : Rows' B (w.setCell ⟨g, j, none⟩ u) bb cs (setS sl s ⟨(sl s).v, (sl s).n, (sl s).xs.set j u⟩) := by
 have hr := h.rows s
 rw [hv] at hr
 obtain ⟨h1, h2⟩ := hr.stored j u
 refine h.grow s _ (by rw [hv]; exact h2) (by dsimp only; rw [hv]; exact h1) (fun k hk => .inl hk)
theorem Rows'.cut {B : Nat} {w : World} {bb : Nat} {cs : Array Value} {sl : Site → Slot} (h : Rows' B w bb cs sl) (s : Site) {g cap : Nat} (hv : (sl s).v = .slice (some ⟨g, 0, none⟩) (sl s).n cap) (m : Nat) (hm : m ≤ (sl s).n) : Rows' B w bb cs (setS sl s ⟨.slice (some ⟨g, 0, none⟩) m cap, m, (sl s).xs.take (m * s.sz)⟩) := by
 have hr := h.rows s
 refine h.grow s _ (grown_refl' w _) ?_ (fun k hk => .inl (by rw [hv]; exact hk))
 rcases hr.2 with ⟨h', _⟩ | ⟨g', cap', cur, h', hb, hg, hnc, hcm, hcs, htake⟩
 ·rw [hv] at h'; cases h'
 ·rw [hv] at h'
  simp only [Value.slice.injEq, Option.some.injEq, Addr.mk.injEq, and_true, true_and] at h'
  obtain ⟨rfl, rfl⟩ := h'
  have hle : m * s.sz ≤ (sl s).n * s.sz := Nat.mul_le_mul_right _ hm
  refine ⟨?_, .inr ⟨g, cap, cur, rfl, hb, hg, Nat.le_trans hm hnc, hcm, hcs, ?_⟩⟩
  ·rw [List.length_take, hr.1, Nat.min_eq_left hle]
  ·rw [← htake, List.take_take, Nat.min_eq_left hle]
end Go.Proofs.Ytefjicdhccfieaa

set_option maxRecDepth 100000
set_option maxHeartbeats 16000000
namespace Go.Proofs.Ytefjicdhccfieaa
open Go.RowKit
structure BC where
 l : List Nat
 next : Nat
 tier : Nat
 round : Nat
structure St where
 V : Nat
 cls : List BC
 W : Nat → Nat → List (Nat × Nat)
 held : List Int
 reason : List Int
 used : List Bool
 trail : List Nat
 lk0 : Nat
 lk1 : Nat
 done : Bool
 round : Nat
 steps : Nat
def fields (sl : Site → Slot) (st : St) : Array Value := #[(sl .clauses).v, (sl (.row 0)).v, (sl (.row 1)).v, (sl .held).v, (sl .reason).v, (sl .used).v, (sl .trail).v, .int .i64 st.lk0, .int .i64 st.lk1, .bool st.done, .int .i64 st.round, .int .i64 st.steps]
def i8V (l : List Int) : List Value := l.map (.int .i8 ·)
def i32V (l : List Int) : List Value := l.map (.int .i32 ·)
def litV (l : List Nat) : List Value := l.map fun (x : Nat) => .int .i32 (x : Int)
def boolV (l : List Bool) : List Value := l.map (.bool ·)
def wlV (l : List (Nat × Nat)) : List Value := l.flatMap fun e => [.int .i32 (e.1 : Int), .int .i32 (e.2 : Int)]
structure Link (sl : Site → Slot) (st : St) : Prop where
 hV : st.V ≤ 100000
 held : (sl .held).n = 2 * st.V ∧ (sl .held).xs = i8V st.held
 heldL : st.held.length = 2 * st.V
 reason : (sl .reason).n = st.V ∧ (sl .reason).xs = i32V st.reason
 reasonL : st.reason.length = st.V
 used : (sl .used).n = st.V ∧ (sl .used).xs = boolV st.used
 usedL : st.used.length = st.V
 trail : (sl .trail).n = st.trail.length ∧ (sl .trail).xs = litV st.trail
 clsN : (sl .clauses).n = st.cls.length
 cls : ∀ i c, st.cls[i]? = some c → (sl .clauses).xs[4 * i]? = some (sl (.lits i)).v ∧ (sl .clauses).xs[4 * i + 1]? = some (.int .i64 c.next) ∧ (sl .clauses).xs[4 * i + 2]? = some (.int .i64 c.tier) ∧ (sl .clauses).xs[4 * i + 3]? = some (.int .i64 c.round)
 lits : ∀ i c, st.cls[i]? = some c → (sl (.lits i)).n = c.l.length ∧ (sl (.lits i)).xs = litV c.l
 row : ∀ t, t < 2 → (sl (.row t)).n = 2 * st.V ∧ ∀ l, l < 2 * st.V → (sl (.row t)).xs[l]? = some (sl (.wl t l)).v
 wl : ∀ t l, t < 2 → l < 2 * st.V → (sl (.wl t l)).n = (st.W t l).length ∧ (sl (.wl t l)).xs = wlV (st.W t l)
def Bd (B : Nat) (w : World) (bb : Nat) (st : St) (X : Slot) (CV : Value) : Prop := ∃ sl, Rows' B w bb (fields sl st) sl ∧ Link sl st ∧ sl (.lits st.cls.length) = X ∧ (sl .clauses).v = CV
def St.hold (st : St) (l : Nat) (r : Int) : St := { st with held := (st.held.set l 1).set (oppN l) (-1), reason := st.reason.set (l / 2) r, trail := st.trail ++ [l] }
theorem oppN_lt {V l : Nat} (h : l < 2 * V) : oppN l < 2 * V := by unfold oppN; split <;> omega
theorem oppN_ne (l : Nat) : oppN l ≠ l := by unfold oppN; split <;> omega
theorem oppN_opp (l : Nat) : oppN (oppN l) = l := by unfold oppN; split <;> (try split) <;> omega
theorem i8V_set (l : List Int) (i : Nat) (x : Int) : i8V (l.set i x) = (i8V l).set i (.int .i8 x) := by simp [i8V, List.map_set]
theorem i32V_set (l : List Int) (i : Nat) (x : Int) : i32V (l.set i x) = (i32V l).set i (.int .i32 x) := by simp [i32V, List.map_set]
theorem litV_app (l : List Nat) (x : Nat) : litV (l ++ [x]) = litV l ++ [.int .i32 (x : Int)] := by simp [litV]
theorem Link.hold {sl : Site → Slot} {st : St} (h : Link sl st) (l : Nat) (r : Int) (v1 v2 v3 : Value) :
  Link (setS (setS (setS sl .held ⟨v1, (sl .held).n, ((sl .held).xs.set l (.int .i8 1)).set (oppN l) (.int .i8 (-1))⟩) .reason ⟨v2, (sl .reason).n, (sl .reason).xs.set (l / 2) (.int .i32 r)⟩) .trail ⟨v3, (sl .trail).n + 1, (sl .trail).xs ++ [.int .i32 (l : Int)]⟩) (st.hold l r) := by
 refine ⟨h.hV, ?_, ?_, ?_, ?_, ?_, h.usedL, ?_, ?_, ?_, ?_, ?_, ?_⟩
 ·refine ⟨by simpa [setS, St.hold] using h.held.1, ?_⟩
  simp only [St.hold, i8V_set]
  rw [← h.held.2]
  simp [setS]
 ·simpa [St.hold] using h.heldL
 ·refine ⟨by simpa [setS, St.hold] using h.reason.1, ?_⟩
  simp only [St.hold, i32V_set]
  rw [← h.reason.2]
  simp [setS]
 ·simpa [St.hold] using h.reasonL
 ·simpa [setS, St.hold] using h.used
 ·refine ⟨by simpa [setS, St.hold] using h.trail.1, ?_⟩
  simp only [St.hold, litV_app]
  rw [← h.trail.2]
  simp [setS]
 ·simpa [setS, St.hold] using h.clsN
 ·intro i c hc
  simpa [setS, St.hold] using h.cls i c hc
 ·intro i c hc
  simpa [setS, St.hold] using h.lits i c hc
 ·intro t ht
  simpa [setS, St.hold] using h.row t ht
 ·intro t l' ht hl
  simpa [setS, St.hold] using h.wl t l' ht hl
end Go.Proofs.Ytefjicdhccfieaa
