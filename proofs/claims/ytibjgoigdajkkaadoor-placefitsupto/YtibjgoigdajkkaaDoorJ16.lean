import Derived.Test.YtibjgoigdajkkaaDoorJ15
namespace Go.Proofs.YtibjgoigdajkkaaDoor
open Go.RowKit

theorem PlBase.heap {D : PnS} {w w' : World} (h : PlBase D w) (e : w'.heap = w.heap) : PlBase D w' :=
  ⟨by rw [e]; exact h.sz, h.lt, h.ne, h.ia, h.nn, h.cc, h.rw_, h.fst, by unfold Blk; rw [e]; exact h.pl, fun i hi k x hx => by
    obtain ⟨b, o, h1, h2, h3, h4, h5⟩ := h.ins i hi k x hx
    exact ⟨b, o, h1, h2, h3, h4, by rw [← h5]; simp only [World.cell?, e]⟩, h.insn, h.insd, h.insl⟩
theorem PlAt.heap {D : PnS} {T : PnT} {w w' : World} (h : PlAt D w T) (e : w'.heap = w.heap) : PlAt D w' T :=
  ⟨h.bs.heap e, fun h0 => by unfold Blk; rw [e]; exact h.it h0, by unfold Blk; rw [e]; exact h.ld, fun i hi => ⟨(h.tk i hi).1, by unfold Blk; rw [e]; exact (h.tk i hi).2⟩, h.dj, h.col, h.tkb, h.ldb⟩
/-- the base stands while other blocks are turned -/
theorem PlBase.kp {D : PnS} {w w' : World} (h : PlBase D w) (hs : w.heap.size ≤ w'.heap.size) (hk : ∀ k, k < D.C → k ≠ D.ib → k ≠ D.lb → w'.heap[k]? = w.heap[k]?) : PlBase D w' :=
  ⟨Nat.le_trans h.sz hs, h.lt, h.ne, h.ia, h.nn, h.cc, h.rw_, h.fst, (hk D.pb h.lt.1 h.ne.1 h.ne.2.1).trans h.pl, fun i hi k x hx => by
    obtain ⟨b, o, h1, h2, h3, h4, h5⟩ := h.ins i hi k x hx
    exact ⟨b, o, h1, h2, h3, h4, by rw [← h5]; simp only [World.cell?, hk b h2 h3 h4]⟩, h.insn, h.insd, h.insl⟩
def ldAdd (ld : Nat → Int) (f u : Nat) (m : Int) (c : Nat) : Int := if f ≤ c ∧ c < u then ld c + m else ld c
theorem ldAdd_none (ld : Nat → Int) {f u : Nat} (m : Int) (h : u ≤ f) : ldAdd ld f u m = ld := by
  funext c; unfold ldAdd; rw [if_neg (by omega)]
theorem ldAdd_next (ld : Nat → Int) {f k : Nat} (m : Int) (h : f ≤ k) : upd (ldAdd ld f k m) k (ld k + m) = ldAdd ld f (k + 1) m := by
  funext c
  unfold upd ldAdd
  by_cases e : c = k
  · subst e; rw [if_pos rfl, if_pos ⟨h, by omega⟩]
  · rw [if_neg e]
    by_cases h2 : f ≤ c ∧ c < k
    · rw [if_pos h2, if_pos ⟨h2.1, by omega⟩]
    · rw [if_neg h2, if_neg (by omega)]
theorem ldAdd_at (ld : Nat → Int) (f k : Nat) (m : Int) : ldAdd ld f k m k = ld k := by unfold ldAdd; rw [if_neg (by omega)]
theorem upd_int (f : Nat → Int) (c : Nat) (x : Int) : upd (fun c => Value.int .i64 (f c)) c (.int .i64 x) = fun c' => Value.int .i64 (upd f c x c') := by
  funext c'; unfold upd; split <;> rfl
/-- one load is turned -/
theorem PlAt.setLd {D : PnS} {T : PnT} {w : World} (h : PlAt D w T) (c : Nat) (x : Int) (hx : -2097152 ≤ x ∧ x ≤ 2097152) : PlAt D (w.setCell ⟨D.lb, c, none⟩ (.int .i64 x)) { T with ld := upd T.ld c x } := by
  have hb := But.set D.lb c w (.int .i64 x)
  have hl := h.bs.lt
  have hne := h.bs.ne
  refine ⟨h.bs.kp hb.size (fun k hk h1 h2 => hb.block k (Nat.lt_of_lt_of_le hk h.bs.sz) h2), fun h0 => hb.blk (h.it h0) hne.2.2, ?_, fun i hi => ⟨(h.tk i hi).1, hb.blk (h.tk i hi).2 (by have := (h.tk i hi).1; show T.tb i ≠ _; omega)⟩, h.dj, h.col, h.tkb, ?_⟩
  · have := h.ld.set c (.int .i64 x)
    rw [tab_set, upd_int] at this
    exact this
  · intro c'
    show _ ≤ upd T.ld c x c' ∧ upd T.ld c x c' ≤ _
    unfold upd
    split
    · exact hx
    · exact h.ldb c'
set_option maxRecDepth 100000 in
set_option maxHeartbeats 8000000 in
theorem tooMany_any (D : PnS) (T : PnT) (w : World) (h : PlAt D w T) (c : Nat) (hc : c < D.cc) (m : Nat) (hm : m ≤ 4) :
    Calls Tryd.prog 73 #[.pointer (some ⟨D.pb, 0, none⟩), .int .i64 c, .int .i64 m] w fun e w' => (∃ r : Int, 0 ≤ r ∧ r ≤ 2097160 ∧ e = .returned (.int .i64 r)) ∧ ∃ n, w' = w.drewN n := by
  have c8 := h.bs.c8
  have c4 := h.bs.c4
  have cl := h.ldc hc
  have hlb := h.ldb c
  have hrw := h.bs.rw_
  have hcI : (c : Int) < (D.cc : Int) := by omega
  generalize D.pb = pb at *
  generalize D.lb = lb at *
  generalize D.cc = cc at *
  generalize D.sh.rows = rows at *
  generalize T.ld c = x at *
  have e1 : IntKind.i64.wrap (x + (m : Int)) = x + m := wrapI _ (by omega) (by omega)
  have e2 : IntKind.i64.wrap (x + (m : Int) - rows) = x + m - rows := wrapI _ (by omega) (by omega)
  clear h hc
  go_enter Tryd.func73, Tryd.ntmps73
  go_wp2
  go_quiet (fail)
  go_wp2
  go_ret
  exact ⟨⟨_, by omega, by omega, rfl⟩, _, rfl⟩
set_option maxRecDepth 100000 in
set_option maxHeartbeats 8000000 in
theorem load_any (D : PnS) (T : PnT) (w : World) (h : PlAt D w T) (f u : Nat) (hu : u ≤ D.cc) (m : Int) (hb : ∀ c, f ≤ c → c < u → -2097152 ≤ T.ld c + m ∧ T.ld c + m ≤ 2097152) :
    Calls Tryd.prog 70 #[.pointer (some ⟨D.pb, 0, none⟩), .int .i64 f, .int .i64 u, .int .i64 m] w fun e w' => (∃ v, e = .returned v) ∧ PlAt D w' { T with ld := ldAdd T.ld f u m } ∧ But D.lb w w' := by
  have HH := hidden h
  have HB := hidden hb
  have hcc := h.bs.cc.2.2
  obtain ⟨pb, epb⟩ := exq D.pb
  obtain ⟨lb, elb⟩ := exq D.lb
  obtain ⟨cc, ecc⟩ := exq D.cc
  have HC : Hid (∀ (v : World) (T' : PnT), PlAt D v T' → v.cell? ⟨pb, 8, none⟩ = some (.slice (some ⟨lb, 0, none⟩) cc cc) ∧ ∀ c, c < cc → v.cell? ⟨lb, c, none⟩ = some (.int .i64 (T'.ld c)) ∧ v.frozen? ⟨lb, c, none⟩ = false) := fun v T' hv => by
    subst epb elb ecc
    exact ⟨hv.bs.c8, fun c hc => ⟨hv.ldc hc, hv.ld.frozen c⟩⟩

  have HLB := hidden elb
  rw [← epb, ← elb]
  rw [← ecc] at hcc hu
  have hsl := h.bs.lt.2.2
  clear h hb epb elb ecc
  by_cases hfu : u ≤ f
  · rw [ldAdd_none _ _ hfu]
    have c8 := (HC.out w T HH.out).1
    have hnI : ¬ (f : Int) < (u : Int) := by omega
    go_enter Tryd.func70, Tryd.ntmps70
    go_wp2_with fail
    go_loopw [8] (fun i' w' => i' = .int .i64 (f : Int) ∧ Hid (w' = w)) (fun _ _ => 0)
    case atStart => exact ⟨rfl, rfl⟩
    case round =>
      obtain ⟨rfl, HW⟩ := hrel
      obtain rfl := HW.out
      clear HW
      go_wp2
      go_end0
      exact ⟨⟨_, rfl⟩, HH.out, But.refl _ _⟩
  · go_enter Tryd.func70, Tryd.ntmps70
    go_wp2_with fail
    go_loopw [8] (fun i' w' => ∃ k : Nat, f ≤ k ∧ k ≤ u ∧ i' = .int .i64 (k : Int) ∧ Hid (PlAt D w' { T with ld := ldAdd T.ld f k m }) ∧ Hid (But lb w w')) (fun i' _ => u - (intOf i').toNat)
    case atStart => exact ⟨f, Nat.le_refl _, by omega, rfl, by show PlAt _ _ _; rw [ldAdd_none _ _ (Nat.le_refl _)]; exact HH.out, But.refl _ _⟩
    case round =>
      obtain ⟨k, hk1, hk2, rfl, HP, HW⟩ := hrel
      obtain ⟨c8, hcl⟩ := HC.out _ _ HP.out
      by_cases hlt : k < u
      · have hltI : (k : Int) < (u : Int) := by omega
        obtain ⟨cx, cf⟩ := hcl k (by omega)
        have hkI : (k : Int) < (cc : Int) := by omega
        have cx2 : wr.cell? ⟨lb, k, none⟩ = some (.int .i64 (T.ld k)) := by rw [cx]; show some (Value.int .i64 (ldAdd T.ld f k m k)) = _; rw [ldAdd_at]
        have hbk := HB.out k hk1 hlt
        have e1 : IntKind.i64.wrap (T.ld k + m) = T.ld k + m := wrapI _ (by omega) (by omega)
        have e2 : IntKind.i64.wrap ((k : Int) + 1) = (k : Int) + 1 := wrapI _ (by omega) (by omega)
        have HN : Hid (PlAt D (wr.setCell ⟨lb, k, none⟩ (.int .i64 (T.ld k + m))) { T with ld := ldAdd T.ld f (k + 1) m }) := by
          show PlAt _ _ _
          rw [← ldAdd_next _ _ hk1, HLB.out]
          exact HP.out.setLd k _ hbk
        have HW2 : Hid (But lb w (wr.setCell ⟨lb, k, none⟩ (.int .i64 (T.ld k + m)))) := HW.out.trans (But.set lb k wr _)
        clear hcl cx HP HW hbk
        go_wp2
        go_roundw
        case measure => simp [intOf]; omega
        case rel => exact ⟨k + 1, by omega, by omega, by simp, HN.out, HW2.out⟩
      · obtain rfl : k = u := by omega
        have hnI : ¬ (k : Int) < (k : Int) := by omega
        clear hcl
        go_wp2
        go_end0
        exact ⟨⟨_, rfl⟩, HP.out, HW.out⟩


end Go.Proofs.YtibjgoigdajkkaaDoor

namespace Go.Proofs.YtibjgoigdajkkaaDoor
open Go.RowKit

theorem wrapS (x : Int) (h0 : -2147483648 ≤ x) (h1 : x < 2147483648) : IntKind.i32.wrap x = x := by
  rw [IntKind.wrap_i32]; omega
/-- a plan's own blocks alone are turned -/
structure FrP (D : PnS) (tb : Nat → Nat) (w w' : World) : Prop where
  os : w'.os = w.os
  tape : w'.tape = w.tape
  output : w'.output = w.output
  size : w.heap.size ≤ w'.heap.size
  block : ∀ k, k < w.heap.size → k ≠ D.ib → k ≠ D.lb → (∀ j, j < D.n → k ≠ tb j) → w'.heap[k]? = w.heap[k]?
theorem FrP.refl (D : PnS) (tb : Nat → Nat) (w : World) : FrP D tb w w := ⟨rfl, rfl, rfl, Nat.le_refl _, fun _ _ _ _ _ => rfl⟩
theorem FrP.trans {D : PnS} {tb : Nat → Nat} {a b c : World} (h : FrP D tb a b) (k : FrP D tb b c) : FrP D tb a c :=
  ⟨k.os.trans h.os, k.tape.trans h.tape, k.output.trans h.output, Nat.le_trans h.size k.size, fun i hi h1 h2 h3 => (k.block i (Nat.lt_of_lt_of_le hi h.size) h1 h2 h3).trans (h.block i hi h1 h2 h3)⟩
theorem FrP.drewN {D : PnS} {tb : Nat → Nat} {a b : World} (h : FrP D tb a b) (n : Nat) : FrP D tb a (b.drewN n) := ⟨h.os, h.tape, h.output, h.size, h.block⟩
theorem But.frp {D : PnS} {tb : Nat → Nat} {a b : World} (h : But D.lb a b) : FrP D tb a b := ⟨h.os, h.tape, h.output, h.size, fun k hk _ h2 _ => h.block k hk h2⟩
theorem But.frpI {D : PnS} {tb : Nat → Nat} {a b : World} (h : But D.ib a b) : FrP D tb a b := ⟨h.os, h.tape, h.output, h.size, fun k hk h2 _ _ => h.block k hk h2⟩
theorem But.frpT {D : PnS} {tb : Nat → Nat} {a b : World} {j : Nat} (hj : j < D.n) (h : But (tb j) a b) : FrP D tb a b := ⟨h.os, h.tape, h.output, h.size, fun k hk _ _ h3 => h.block k hk (h3 j hj)⟩
theorem FrP.below {D : PnS} {tb : Nat → Nat} {B : Nat} {a b : World} (h : FrP D tb a b) (hB : B ≤ a.heap.size) (h1 : B ≤ D.ib) (h2 : B ≤ D.lb) (h3 : ∀ j, j < D.n → B ≤ tb j) : Below B a b :=
  ⟨h.os, h.tape, h.output, h.size, fun k hk => h.block k (by omega) (by omega) (by omega) (fun j hj => by have := h3 j hj; omega)⟩
theorem FrP.blk {D : PnS} {tb : Nat → Nat} {a b : World} (h : FrP D tb a b) {g : Nat} {t : TypeId} {arr : Array Value} (hb : Blk a g t arr) (h1 : g ≠ D.ib) (h2 : g ≠ D.lb) (h3 : ∀ j, j < D.n → g ≠ tb j) : Blk b g t arr := (h.block g hb.lt h1 h2 h3).trans hb
theorem itC_col (D : PnS) (T : PnT) (i : Nat) (x : Int) : upd (itC D T) (i * 5 + 3) (.int .i64 x) = itC D { T with col := upd T.col i x } := by
  funext m
  by_cases e : m = i * 5 + 3
  · subst e
    rw [upd_same, (itC_at D _ i).2.2.2.1]
    show _ = Value.int .i64 (upd T.col i x i)
    rw [upd_same]
  · rw [upd_ne e]
    unfold itC
    split
    · rfl
    · rfl
    · rfl
    · rename_i h3
      show _ = Value.int .i64 (upd T.col i x (m / 5))
      rw [upd_ne (by omega)]
    · rfl
theorem PlAt.setCol {D : PnS} {T : PnT} {w : World} (h : PlAt D w T) {i : Nat} (hi : i < D.n) (x : Int) (hx : -1 ≤ x ∧ x < D.cc) : PlAt D (w.setCell ⟨D.ib, i * 5 + 3, none⟩ (.int .i64 x)) { T with col := upd T.col i x } := by
  have hb := But.set D.ib (i * 5 + 3) w (.int .i64 x)
  have hl := h.bs.lt
  have hne := h.bs.ne
  refine ⟨h.bs.kp hb.size (fun k hk h1 h2 => hb.block k (Nat.lt_of_lt_of_le hk h.bs.sz) h1), fun h0 => ?_, hb.blk h.ld (fun e => hne.2.2 e.symm), fun i hi => ⟨(h.tk i hi).1, hb.blk (h.tk i hi).2 (by have := (h.tk i hi).1; show T.tb i ≠ _; omega)⟩, h.dj, ?_, h.tkb, h.ldb⟩
  · have := (h.it h0).set (i * 5 + 3) (.int .i64 x)
    rw [tabA_set (by omega), itC_col] at this
    exact this
  · intro j hj
    show _ ≤ upd T.col i x j ∧ upd T.col i x j < _
    unfold upd
    split
    · exact hx
    · exact h.col j hj
def upd2 (t : Nat → Nat → Nat) (i c x : Nat) : Nat → Nat → Nat := fun j d => if j = i ∧ d = c then x else t j d
theorem upd_i32 (f : Nat → Nat) (c x : Nat) : upd (fun c => Value.int .i32 (f c : Nat)) c (.int .i32 (x : Nat)) = fun c' => Value.int .i32 (upd f c x c' : Nat) := by
  funext c'; unfold upd; split <;> rfl
theorem PlAt.setTk {D : PnS} {T : PnT} {w : World} (h : PlAt D w T) {i : Nat} (hi : i < D.n) (c x : Nat) (hx : x ≤ 1048577) : PlAt D (w.setCell ⟨T.tb i, c, none⟩ (.int .i32 (x : Nat))) { T with tk := upd2 T.tk i c x } := by
  have hb := But.set (T.tb i) c w (.int .i32 (x : Nat))
  have hl := h.bs.lt
  have ht := (h.tk i hi).1
  refine ⟨h.bs.kp hb.size (fun k hk h1 h2 => hb.block k (Nat.lt_of_lt_of_le hk h.bs.sz) (by omega)), fun h0 => hb.blk (h.it h0) (by omega), hb.blk h.ld (by omega), fun j hj => ⟨(h.tk j hj).1, ?_⟩, h.dj, h.col, ?_, h.ldb⟩
  · by_cases e : j = i
    · subst e
      have := (h.tk j hj).2.set c (.int .i32 (x : Nat))
      rw [tab_set, upd_i32] at this
      have e2 : (fun c' => Value.int .i32 (upd (T.tk j) c x c' : Nat)) = fun c' => Value.int .i32 (upd2 T.tk j c x j c' : Nat) := by
        funext c'; unfold upd upd2; by_cases h : c' = c <;> simp [h]
      rw [e2] at this
      exact this
    · have e2 : upd2 T.tk i c x j = T.tk j := by funext d; unfold upd2; rw [if_neg (fun h => e h.1)]
      show Blk _ _ _ (tabL (D.cc + 1) fun c' => Value.int .i32 (upd2 T.tk i c x j c' : Nat)).toArray
      rw [e2]
      exact hb.blk (h.tk j hj).2 (fun e' => e (h.dj j i hj hi e'))
  · intro j d hj
    show upd2 T.tk i c x j d ≤ _
    unfold upd2
    split
    · exact hx
    · exact h.tkb j d hj
/-- one more for each of a list, at one column -/
def tkAdd (t : Nat → Nat → Nat) (l : List Nat) (c : Nat) : Nat → Nat → Nat := fun j d => if j ∈ l ∧ d = c then t j d + 1 else t j d
theorem tkAdd_nil (t : Nat → Nat → Nat) (c : Nat) : tkAdd t [] c = t := by funext j d; unfold tkAdd; rw [if_neg (fun h => by cases h.1)]
theorem tkAdd_next (t : Nat → Nat → Nat) {l : List Nat} {x : Nat} (c : Nat) (h : x ∉ l) : upd2 (tkAdd t l c) x c (t x c + 1) = tkAdd t (l ++ [x]) c := by
  funext j d
  unfold upd2 tkAdd
  by_cases e : j = x ∧ d = c
  · obtain ⟨rfl, rfl⟩ := e
    rw [if_pos ⟨rfl, rfl⟩, if_pos ⟨by simp, rfl⟩]
  · rw [if_neg e]
    by_cases e2 : j ∈ l ∧ d = c
    · rw [if_pos e2, if_pos ⟨by simp [e2.1], e2.2⟩]
    · rw [if_neg e2, if_neg]
      rintro ⟨h1, h2⟩
      rcases List.mem_append.1 h1 with h1 | h1
      · exact e2 ⟨h1, h2⟩
      · exact e ⟨by simpa using h1, h2⟩
theorem tkAdd_at {t : Nat → Nat → Nat} {l : List Nat} {x c : Nat} (h : x ∉ l) : tkAdd t l c x c = t x c := by unfold tkAdd; rw [if_neg (fun e => h e.1)]
theorem nodup_take {l : List Nat} (h : l.Nodup) {k x : Nat} (hx : l[k]? = some x) : x ∉ l.take k := by
  intro hm
  obtain ⟨j, hj⟩ := List.getElem?_of_mem hm
  have hjk : j < k := by
    have := (List.getElem?_eq_some_iff.1 hj).1
    rw [List.length_take] at this; omega
  rw [List.getElem?_take_of_lt hjk] at hj
  obtain ⟨h1, e1⟩ := List.getElem?_eq_some_iff.1 hj
  obtain ⟨h2, e2⟩ := List.getElem?_eq_some_iff.1 hx
  exact List.pairwise_iff_getElem.1 h j k h1 h2 hjk (e1.trans e2.symm)
def putT (D : PnS) (T : PnT) (i c : Nat) : PnT := { T with col := upd T.col i c, tk := tkAdd T.tk (D.ins i) c }
set_option maxRecDepth 100000 in
set_option maxHeartbeats 8000000 in
theorem put_any (D : PnS) (T : PnT) (w : World) (h : PlAt D w T) (i : Nat) (hi : i < D.n) (c : Nat) (hc : c < D.cc) (hb : ∀ x, x ∈ D.ins i → T.tk x c + 1 ≤ 1048577) :
    Calls Tryd.prog 56 #[.pointer (some ⟨D.pb, 0, none⟩), .int .i64 i, .int .i64 c] w fun e w' => (∃ v, e = .returned v) ∧ PlAt D w' (putT D T i c) ∧ FrP D T.tb w w' := by
  have hcc := h.bs.cc.2.2
  have hns := h.bs.nn
  obtain ⟨pb, epb⟩ := exq D.pb
  obtain ⟨ib, eib⟩ := exq D.ib
  obtain ⟨n, en⟩ := exq D.n
  obtain ⟨cc, ecc⟩ := exq D.cc
  obtain ⟨la, ela⟩ := exq (D.a i)
  obtain ⟨lc, elc⟩ := exq (D.c i)
  obtain ⟨l, el⟩ := exq (D.ins i)
  obtain ⟨ln, eln⟩ := exq l.length
  have HC : Hid (∀ (v : World) (T' : PnT), PlAt D v T' → v.cell? ⟨pb, 6, none⟩ = some (.slice (some ⟨ib, 0, none⟩) n D.icap) ∧ v.cell? ⟨ib, i * 5 + 1, none⟩ = some (.slice la ln lc) ∧ v.cell? ⟨ib, i * 5 + 3, none⟩ = some (.int .i64 (T'.col i)) ∧ v.frozen? ⟨ib, i * 5 + 3, none⟩ = false) := fun v T' hv => by
    subst eln el
    subst epb eib en ela elc
    refine ⟨?_, hv.i1 hi, hv.i3 hi, (hv.it (by omega)).frozen _⟩
    rw [← hv.bs.ia (by omega)]; exact hv.bs.c6
  have HX : Hid (∀ (v : World) (T' : PnT), PlAt D v T' → T'.tb = T.tb → ∀ k x, l[k]? = some x → ∃ b o, la = some ⟨b, o, none⟩ ∧ x < n ∧ v.cell? ⟨b, o + k, none⟩ = some (.int .i64 (x : Nat)) ∧ v.cell? ⟨ib, x * 5 + 4, none⟩ = some (.slice (some ⟨T.tb x, 0, none⟩) (cc + 1) (cc + 1)) ∧ v.cell? ⟨T.tb x, c, none⟩ = some (.int .i32 (T'.tk x c : Nat)) ∧ v.frozen? ⟨T.tb x, c, none⟩ = false) := fun v T' hv ht k x hx => by
    subst el
    subst eib en ela ecc
    obtain ⟨b, o, h1, h2, h3, h4, h5⟩ := hv.bs.ins i hi k x hx
    have hxn := hv.bs.insn i hi x (List.mem_of_getElem? hx)
    rw [← ht]
    exact ⟨b, o, h1, by omega, h5, hv.i4 (by omega), hv.tkc (by omega) (by omega), (hv.tk x (by omega)).2.frozen _⟩
  have HND : Hid l.Nodup := by rw [el]; exact h.bs.insd i hi
  have hl4 : ln ≤ 4 := by rw [eln, el]; exact h.bs.insl i hi
  have HB : Hid (∀ x, x ∈ l → T.tk x c + 1 ≤ 1048577) := by rw [el]; exact hb
  have hcI : (c : Int) < (cc : Int) + 1 := by omega
  have hiI : (i : Int) < (n : Int) := by omega
  have HST : Hid (PlAt D (w.setCell ⟨ib, i * 5 + 3, none⟩ (.int .i64 (c : Int))) { T with col := upd T.col i c, tk := tkAdd T.tk (l.take 0) c }) := by
    show PlAt _ _ _
    rw [List.take_zero, tkAdd_nil, eib]
    exact h.setCol hi c (by omega)
  have HF0 : Hid (FrP D T.tb w (w.setCell ⟨ib, i * 5 + 3, none⟩ (.int .i64 (c : Int)))) := by rw [eib]; exact (But.set D.ib _ w _).frpI
  obtain ⟨c6, c1, c3, cf⟩ := HC.out w T h
  unfold putT
  rw [← el, ← epb]
  have HLN := hidden eln
  have HEN := hidden en
  clear h hb epb eib en ecc ela elc el eln
  go_enter Tryd.func56, Tryd.ntmps56
  go_upto_region 1 with fail
  generalize w.setCell ⟨ib, i * 5 + 3, none⟩ (.int .i64 (c : Int)) = w1 at *
  obtain ⟨d6, d1, -, -⟩ := HC.out w1 _ HST.out
  clear c6 c1 c3 cf
  go_wp2_with fail
  clear d6 d1
  go_loopw [25] (fun i' w' => ∃ k : Nat, k ≤ ln ∧ i' = .int .i64 (k : Int) ∧ Hid (PlAt D w' { T with col := upd T.col i c, tk := tkAdd T.tk (l.take k) c }) ∧ Hid (FrP D T.tb w w')) (fun i' _ => ln - (intOf i').toNat)
  case atStart => exact ⟨0, Nat.zero_le _, rfl, HST.out, HF0.out⟩
  case round =>
    clear HST HF0
    obtain ⟨k, hk, rfl, HP, HF⟩ := hrel
    by_cases hlt : k < ln
    · have hltI : (k : Int) < (ln : Int) := by omega
      obtain ⟨x, hx⟩ := getElem_lt (show k < l.length by rw [← HLN.out]; exact hlt)
      obtain ⟨d6, -, -, -⟩ := HC.out wr _ HP.out
      obtain ⟨b, o, ea, hxn, cx, cs, ct, cf⟩ := HX.out wr _ HP.out rfl k x hx
      have hni := nodup_take HND.out hx
      have ct2 : wr.cell? ⟨T.tb x, c, none⟩ = some (.int .i32 (T.tk x c : Nat)) := by rw [ct]; show some (Value.int .i32 ((tkAdd T.tk (l.take k) c x c : Nat) : Int)) = _; rw [tkAdd_at hni]
      have hbx := HB.out x (List.mem_of_getElem? hx)
      have e1 : IntKind.i32.wrap ((T.tk x c : Int) + 1) = ((T.tk x c + 1 : Nat) : Int) := by rw [wrapS _ (by omega) (by omega)]; omega
      have e2 : IntKind.i64.wrap ((k : Int) + 1) = (k : Int) + 1 := wrapI _ (by omega) (by omega)
      have HN : Hid (PlAt D (wr.setCell ⟨T.tb x, c, none⟩ (.int .i32 ((T.tk x c + 1 : Nat) : Int))) { T with col := upd T.col i c, tk := tkAdd T.tk (l.take (k + 1)) c }) := by
        show PlAt _ _ _
        rw [take_next _ k _ hx, ← tkAdd_next _ _ hni]
        exact HP.out.setTk (T := { T with col := upd T.col i c, tk := tkAdd T.tk (l.take k) c }) (by rw [← HEN.out]; exact hxn) c _ hbx
      have HF2 : Hid (FrP D T.tb w (wr.setCell ⟨T.tb x, c, none⟩ (.int .i32 ((T.tk x c + 1 : Nat) : Int)))) := HF.out.trans ((But.set (T.tb x) c wr _).frpT (by rw [← HEN.out]; exact hxn))
      have hxI : (x : Int) < (n : Int) := by omega
      subst ea
      clear hx ct HP HF hni hbx
      go_wp2
      go_roundw
      case measure => simp [intOf]; omega
      case rel => exact ⟨k + 1, by omega, by simp, HN.out, HF2.out⟩
    · have hge : ¬ ((k : Int) < (ln : Int)) := by omega
      have HFI : Hid (PlAt D wr { T with col := upd T.col i c, tk := tkAdd T.tk l c }) := by
        have := HP.out
        rw [List.take_of_length_le (by have := HLN.out; omega)] at this
        exact this
      clear HP
      go_wp2
      go_end0
      exact ⟨⟨_, rfl⟩, HFI.out, HF.out⟩


end Go.Proofs.YtibjgoigdajkkaaDoor
