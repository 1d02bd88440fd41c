import Derived.Test.YtibjgoigdajkkaaDoorJ25
import Derived.Deep.AppendLies
import Derived.Lib.Walk
import Derived.Lib.SliceRun
import Derived.Lib.AppendZerosOnto
namespace Go.Proofs.YtibjgoigdajkkaaDoor
open Go.RowKit

def natV (x : Nat) : Value := .int .i64 (x : Nat)
theorem own_keep {w w' : World} {C e s n : Nat} {v : Value} {xs : List Value} (h : w.ownsRow C e s v n xs) (hk : ∀ g, v.ownBlock = some g → w'.heap[g]? = w.heap[g]?) : w'.ownsRow C e s v n xs := by
  obtain ⟨h1, h2⟩ := h
  refine ⟨h1, ?_⟩
  rcases h2 with h2 | ⟨g, cap, cur, rfl, h3, h4, h5⟩
  · exact Or.inl h2
  · exact Or.inr ⟨g, cap, cur, rfl, h3, (hk g rfl).trans h4, h5⟩
theorem own_lt {w : World} {C e s n : Nat} {v : Value} {xs : List Value} (h : w.ownsRow C e s v n xs) {g : Nat} (hg : v.ownBlock = some g) : C ≤ g ∧ g < w.heap.size := by
  rcases h.2 with ⟨rfl, _⟩ | ⟨g', cap, cur, rfl, h3, h4, _⟩
  · cases hg
  · simp only [Value.ownBlock, Option.some.injEq] at hg
    subst hg
    exact ⟨h3, (Array.getElem?_eq_some_iff.1 h4).1⟩
/-- lists of items by columns, in memory -/
structure HdAt (w : World) (C0 cb cc : Nat) (vs : Nat → Value) (ls : Nat → List Nat) : Prop where
  le : C0 ≤ cb
  bk : Blk w cb 24 (tabL cc vs).toArray
  rw_ : ∀ c, c < cc → w.ownsRow C0 3 1 (vs c) (ls c).length ((ls c).map natV)
  ne : ∀ c, c < cc → (vs c).ownBlock ≠ some cb
  sp : ∀ c d, c < cc → d < cc → c ≠ d → ∀ g, (vs c).ownBlock = some g → (vs d).ownBlock ≠ some g
theorem HdAt.push {w w1 w5 : World} {C0 cb cc : Nat} {vs : Nat → Value} {ls : Nat → List Nat} (h : HdAt w C0 cb cc vs ls) {c i g cap : Nat} (hc : c < cc) (hC : C0 ≤ w.heap.size) (ha : Below w.heap.size w w1) (hg : w1.grownBy w5 (vs c).ownBlock)
    (ho : w5.ownsRow C0 3 1 (.slice (some ⟨g, 0, none⟩) ((ls c).length + 1) cap) ((ls c).length + 1) ((ls c).map natV ++ [natV i])) (hw : (vs c).ownBlock = some g ∨ g = w1.heap.size) :
    HdAt (w5.setCell ⟨cb, c, none⟩ (.slice (some ⟨g, 0, none⟩) ((ls c).length + 1) cap)) C0 cb cc (upd vs c (.slice (some ⟨g, 0, none⟩) ((ls c).length + 1) cap)) (upd ls c (ls c ++ [i])) ∧ Below C0 w (w5.setCell ⟨cb, c, none⟩ (.slice (some ⟨g, 0, none⟩) ((ls c).length + 1) cap)) := by
  have hcl := h.bk.lt
  have hb5 : Blk w5 cb 24 (tabL cc vs).toArray := (hg.block cb (Nat.lt_of_lt_of_le hcl ha.size) (fun e => h.ne c hc e.symm)).trans (h.bk.below ha)
  have hgc : g ≠ cb := by
    rcases hw with e | e
    · intro e2; exact h.ne c hc (e2 ▸ e)
    · have := ha.size; omega
  have hbut := But.set cb c w5 (.slice (some ⟨g, 0, none⟩) ((ls c).length + 1) cap)
  have hold : ∀ d, d < cc → d ≠ c → ∀ k, (vs d).ownBlock = some k → k < w.heap.size ∧ k ≠ g ∧ w5.heap[k]? = w.heap[k]? := fun d hd hne k hk => by
    have h1 := (own_lt (h.rw_ d hd) hk).2
    have h2 : (vs c).ownBlock ≠ some k := h.sp d c hd hc hne k hk
    refine ⟨h1, ?_, (hg.block k (Nat.lt_of_lt_of_le h1 ha.size) (fun e => h2 e.symm)).trans (ha.block k h1)⟩
    rcases hw with e | e
    · intro e2; exact h2 (e2 ▸ e)
    · have := ha.size; omega
  refine ⟨⟨h.le, ?_, fun d hd => ?_, fun d hd => ?_, fun d d' hd hd' hne k hk => ?_⟩, ?_⟩
  · have := hb5.set c (.slice (some ⟨g, 0, none⟩) ((ls c).length + 1) cap)
    rw [tab_set] at this
    exact this
  · unfold upd
    by_cases e : d = c
    · rw [if_pos e, if_pos e, List.length_append, List.length_singleton, List.map_append]
      exact own_keep ho (fun k hk => hbut.block k ((own_lt ho hk).2) (by simp only [Value.ownBlock, Option.some.injEq] at hk; omega))
    · rw [if_neg e, if_neg e]
      refine own_keep (h.rw_ d hd) (fun k hk => ?_)
      obtain ⟨h1, h2, h3⟩ := hold d hd e k hk
      refine (hbut.block k (Nat.lt_of_lt_of_le h1 (Nat.le_trans ha.size hg.size)) (fun e2 => h.ne d hd (e2 ▸ hk))).trans h3
  · unfold upd
    by_cases e : d = c
    · rw [if_pos e]; simp only [Value.ownBlock, ne_eq, Option.some.injEq]; exact hgc
    · rw [if_neg e]; exact h.ne d hd
  · unfold upd at hk ⊢
    by_cases e : d = c
    · rw [if_pos e] at hk
      have e2 : d' ≠ c := fun e2 => hne (e.trans e2.symm)
      rw [if_neg e2]
      simp only [Value.ownBlock, Option.some.injEq] at hk
      intro e3
      exact (hold d' hd' e2 k e3).2.1 hk.symm
    · rw [if_neg e] at hk
      by_cases e2 : d' = c
      · rw [if_pos e2]
        simp only [Value.ownBlock, ne_eq, Option.some.injEq]
        intro e3
        exact (hold d hd e k hk).2.1 e3.symm
      · rw [if_neg e2]; exact h.sp d d' hd hd' hne k hk
  · have hb1 : Below C0 w w5 := ⟨hg.os.trans ha.os, hg.tape.trans ha.tape, hg.output.trans ha.output, Nat.le_trans ha.size hg.size, fun k hk => (hg.block k (by have := ha.size; omega) (fun e => by
      have := (own_lt (h.rw_ c hc) e.symm).1; omega)).trans (ha.block k (by omega))⟩
    exact hb1.trans (hbut.below h.le (Nat.le_trans hC hb1.size))
/-- the items that a column holds, of the first k -/
def heldK (D : PnS) (T : PnT) (k c : Nat) : List Nat := (List.range k).filter (heldB D T c)
theorem heldK_next (D : PnS) (T : PnT) (k c : Nat) : heldK D T (k + 1) c = heldK D T k c ++ (if heldB D T c k then [k] else []) := by
  unfold heldK
  rw [List.range_succ, List.filter_append]
  congr 1
  by_cases h : heldB D T c k = true
  · rw [if_pos h]; simp [h]
  · rw [if_neg h]; simp [h]
theorem heldK_len (D : PnS) (T : PnT) (k c : Nat) : (heldK D T k c).length ≤ k := by
  unfold heldK; rw [cnt_filter]; exact cnt_le _ _
/-- .. and of item k in the columns ahead of m -/
def heldM (D : PnS) (T : PnT) (k m c : Nat) : List Nat := if (T.col k).toNat ≤ c ∧ c < m then heldK D T k c ++ [k] else heldK D T k c


end Go.Proofs.YtibjgoigdajkkaaDoor

namespace Go.Proofs.YtibjgoigdajkkaaDoor
open Go.RowKit

set_option maxRecDepth 100000 in
set_option maxHeartbeats 8000000 in
theorem grow_any (w : World) (n : Nat) (hn : n ≤ 1000000) :
    Calls Tryd.prog 69 #[.slice none 0 0, .int .i64 (n : Int)] w fun e w' => ∃ v, e = .returned v ∧ w'.ownsRow w.heap.size 3 1 v 0 [] ∧ Below w.heap.size w w' := by
  by_cases h0 : n = 0
  · subst h0
    go_enter Tryd.func69, Tryd.ntmps69
    go_wp2
    go_ret
    exact ⟨_, rfl, ⟨rfl, Or.inl ⟨rfl, rfl⟩⟩, Below.refl _ _⟩
  · obtain ⟨i0, hi0, hz0, hs0, hby⟩ := info_int
    have hrz : ∀ ty, (Builtin.append_ #[24, 3] ty #[.slice none 0 0, .int .i64 (n : Int)]).run Tryd.prog w =
        .ok (.slice (some ⟨w.heap.size, 0, none⟩) n (grownCap w n 0 3)) (w.drew.alloc (.cells (#[] ++ Builtin.zeroCells (Value.int .i64 0).cells n ++ Builtin.zeroCells (Value.int .i64 0).cells (grownCap w n 0 3 - n)) 3)) := fun ty => by
      have h := Lib.run_append_grow_zeros w 24 3 ty 3 i0 (.int .i64 0) .i64 .i64 Tryd.underlying24 Tryd.underlying3 hi0 hz0 none 0 0 [] (by rw [hs0]; exact run_firstCells_none w.drew 1 0 0 0) n (by omega) (by omega) (by omega) (by omega)
        (by rw [hby]; omega)
        (by rw [hby, Nat.zero_add]; exact growslice_fits (by omega) (by omega))
      rw [Nat.zero_add] at h
      exact h
    have hGn : n ≤ grownCap w n 0 3 := grownCap_ge w _ _ _
    have hGm : grownCap w n 0 3 ≤ maxLen := grownCap_le_maxLen w n 0 3 (by simp only [maxLen]; omega)
    generalize grownCap w n 0 3 = G at *
    obtain ⟨w9, E9⟩ := exh (w.drew.alloc (.cells (#[] ++ Builtin.zeroCells (Value.int .i64 0).cells n ++ Builtin.zeroCells (Value.int .i64 0).cells (G - n)) 3))
    rw [← E9.out] at hrz
    obtain ⟨cur, Ecur⟩ := exh (#[] ++ Builtin.zeroCells (Value.int .i64 0).cells n ++ Builtin.zeroCells (Value.int .i64 0).cells (G - n))
    have HG : Hid (Blk w9 w.heap.size 3 cur) := by rw [E9.out, Ecur.out]; exact Blk.new w.drew _ _
    have HSZ : Hid (cur.size = G) := by
      show _ = _
      rw [Ecur.out, Array.size_append, Array.size_append, size_zeroCells, size_zeroCells]
      simp [Value.cells]
      omega
    have HB : Hid (Below w.heap.size w w9) := by rw [E9.out]; exact (Below.drew (Below.refl _ _)).alloc (Nat.le_refl _) _
    have hn1 : ¬ (n : Int) < 0 := by omega
    have hn2 : (0 : Int) < (n : Int) := by omega
    have e1 : IntKind.i64.wrap ((n : Int) - 0) = (n : Int) := by rw [Int.sub_zero]; exact wrapI _ (by omega) (by omega)
    have e2 : IntKind.i64.wrap (n : Int) = (n : Int) := wrapI _ (by omega) (by omega)
    have hG63 : G ≤ 9223372036854775807 := by simp only [maxLen] at hGm; omega
    clear hi0 hz0 hs0 hby h0
    go_enter Tryd.func69, Tryd.ntmps69
    go_wp2_with (at_builtin; refine Lib.wpList_append_run _ rfl _ _ _ _ rfl _ _ rfl rfl _ _ (hrz _) ?_)
    all_goals (go_ret; exact ⟨_, rfl, ⟨rfl, Or.inr ⟨w.heap.size, G, cur, rfl, Nat.le_refl _, HG.out, Nat.zero_le _, hGm, by rw [HSZ.out, Nat.mul_one], by simp⟩⟩, HB.out⟩)


end Go.Proofs.YtibjgoigdajkkaaDoor

namespace Go.Proofs.YtibjgoigdajkkaaDoor
open Go.RowKit

theorem wpList_append_ints {P : Program} (w : World) {ops : Array Oper} {rest : List Oper} {o : Oper} {a : Act} {Q : Exit → Act → World → Prop} (hgd : o.guard = none) (s x : Operand) (t : TypeId)
    (ho : o.op = .call { callee := .builtin .append, args := #[s, x], argTypes := #[t, t] })
    (base : Nat) (e : TypeId) (i : TypeInfo) (z : Value) (bytes : Nat) (ht : P.underlying t = some (.slice e)) (hi : P.info? e = some i) (hz : i.zero = some z)
    (hsize : i.size = 1) (hby : i.bytes = bytes) (hzs : z.cells.size = 1)
    (v : Value) (n : Nat) (xs : List Value) (hs : a.eval s = v) (hown : w.ownsRow base e 1 v n xs)
    (la : Option Addr) (lc : Nat) (l : List Int) (hx : a.eval x = .slice la l.length lc) (hnil : la = none → l = [] ∧ lc = 0) (hb : RowAt w.heap.size w la 1 (l.map intC))
        (h63 : n + l.length ≤ maxLen) (hbytes : (n + l.length) * bytes ≤ 140737488355328) (hbase : base ≤ w.heap.size)
    (h : ∀ v' w', w'.ownsRow base e 1 v' (n + l.length) (xs ++ l.map iV) → w.grownBy w' v.ownBlock → wpList P ops Q rest (a.put o.dst v') w') :
    wpList P ops Q (o :: rest) a w := by
  cases la with
  | none =>
    obtain ⟨rfl, rfl⟩ := hnil rfl
    refine wpList_plain hgd fun K hK => ?_
    have hr := run_append_owned_none (P := P) w base t o.type e i 1 ht hi v n xs hown
    unfold Oper.wp execOp
    have hx' : a.eval x = .slice none 0 0 := hx
    simp only [ho, resolve, invoke, builtin, Sem.run_bind, Sem.run_pure, Result.andThen_ok, List.map_toArray, List.map_cons, List.map_nil, hs, hx', hr]
    exact hK _ _ (h v w (by simpa using hown) (World.grownBy.refl _ _))
  | some ad =>
    by_cases hne : l = []
    · subst hne
      refine wpList_append_own_at w hgd s x t ho base e i z 1 bytes ht hi hz hsize hby hzs (by decide) v n xs hs hown ad 0 lc [] hx (by simp) (fun j u hu => by simp at hu) (fun u hu => by simp at hu) h63 hbytes hbase ?_
      intro v' w' h1 h2 _ _
      exact h v' w' (by simpa using h1) h2
    obtain ⟨b, off, hbo, _, _⟩ := hb (by simpa using hne)
    obtain rfl := Option.some.inj hbo
    refine wpList_append_own_at w hgd s x t ho base e i z 1 bytes ht hi hz hsize hby hzs (by decide) v n xs hs hown ⟨b, off, none⟩ l.length lc (l.map iV) hx (by simp) ?_ ?_ h63 hbytes hbase ?_
    · intro j u hu
      rw [List.getElem?_map] at hu
      cases hl : l[j]? with
      | none => rw [hl] at hu; cases hu
      | some y =>
        rw [hl] at hu
        have e : Value.int .i64 y = u := by simpa [iV] using hu
        subst e
        have e2 : (⟨b, off, none⟩ : Addr).add j = ⟨b, off + j, none⟩ := by unfold Addr.add; split <;> simp_all
        obtain ⟨b', o', e3, _, hc⟩ := hb.int hl
        simp only [Option.some.injEq, Addr.mk.injEq, and_true] at e3
        obtain ⟨rfl, rfl⟩ := e3
        rw [e2]; exact hc
    · intro u hu
      obtain ⟨y, _, rfl⟩ := List.mem_map.1 hu
      rfl
    · intro v' w' h1 h2 _ _
      exact h v' w' h1 h2
/-- a list of numbers that was handed in -/
structure InL3 (w : World) (a : Option Addr) (c : Nat) (l : List Int) : Prop where
  nil : a = none → l = [] ∧ c = 0
  row : RowAt w.heap.size w a 1 (l.map intC)
theorem InL3.to {w w' : World} {a : Option Addr} {c : Nat} {l : List Int} (h : InL3 w a c l) (hb : Below w.heap.size w w') : InL3 w' a c l := ⟨h.nil, (h.row.to hb).mono hb.size⟩
set_option maxRecDepth 100000 in
set_option maxHeartbeats 8000000 in
theorem concat_any (w : World) (xb : Nat) (a1 a2 : Option Addr) (c1 c2 : Nat) (l1 l2 : List Int) (hxb : xb < w.heap.size) (x0 : w.cell? ⟨xb, 0, none⟩ = some (.slice a1 l1.length c1)) (x1 : w.cell? ⟨xb, 1, none⟩ = some (.slice a2 l2.length c2)) (R1 : InL3 w a1 c1 l1) (R2 : InL3 w a2 c2 l2) (h1 : l1.length ≤ 400000) (h2 : l2.length ≤ 400000) :
    Calls Tryd.prog 54 #[.slice (some ⟨xb, 0, none⟩) 2 2] w fun e w' => ∃ v, e = .returned v ∧ w'.ownsRow w.heap.size 3 1 v (l1.length + l2.length) ((l1 ++ l2).map iV) ∧ Below w.heap.size w w' := by
  have HR1 := hidden R1
  have HR2 := hidden R2
  obtain ⟨n1, E1⟩ := exh l1.length
  obtain ⟨n2, E2⟩ := exh l2.length
  rw [← E1.out] at x0 h1
  rw [← E2.out] at x1 h2
  rw [← E1.out, ← E2.out]
  have HX : Hid (∀ v : World, Below w.heap.size w v → v.cell? ⟨xb, 0, none⟩ = some (.slice a1 n1 c1) ∧ v.cell? ⟨xb, 1, none⟩ = some (.slice a2 n2 c2)) := fun v hv => ⟨(hv.cell (p := ⟨xb, 0, none⟩) hxb).trans x0, (hv.cell (p := ⟨xb, 1, none⟩) hxb).trans x1⟩
  have GR := hidden (grow_any w (n1 + n2) (by omega))
  obtain ⟨ic, hic, hz, hs, hby⟩ := info_int
  have HI := hidden hic
  have HZ := hidden hz
  have HSI := hidden hs
  have HBY := hidden hby
  clear R1 R2 hxb hic hz hs hby
  go_enter Tryd.func54, Tryd.ntmps54
  go_wp2_with fail
  go_loopw [3, 5, 11] (fun s' _ i' w' => (∃ k s : Nat, k ≤ 2 ∧ i' = .int .i64 (k : Int) ∧ s' = .int .i64 (s : Int) ∧ s = (if k = 0 then 0 else if k = 1 then n1 else n1 + n2)) ∧ Hid (w' = w)) (fun _ _ i' _ => 2 - (intOf i').toNat)
  case atStart => exact ⟨⟨0, 0, by omega, rfl, rfl, rfl⟩, rfl⟩
  case round =>
    obtain ⟨⟨k, s, hk, rfl, rfl, hs⟩, HW⟩ := hrel
    obtain rfl := HW.out
    clear HW
    have hk3 : k = 0 ∨ k = 1 ∨ k = 2 := by omega
    rcases hk3 with rfl | rfl | rfl
    · rw [if_pos rfl] at hs
      subst hs
      have e1 : IntKind.i64.wrap ((0 : Int) + (n1 : Int)) = (n1 : Int) := by rw [Int.zero_add]; exact wrapI _ (by omega) (by omega)
      have e1' : IntKind.i64.wrap (n1 : Int) = (n1 : Int) := wrapI _ (by omega) (by omega)
      have hn : ¬ (n1 : Int) < 0 := by omega
      go_wp2
      go_roundw
      case measure => simp [intOf]
      case rel => exact ⟨⟨1, n1, by omega, by simp, by simp, by simp⟩, True.intro⟩
    · rw [if_neg (by omega), if_pos rfl] at hs
      subst hs
      have e1 : IntKind.i64.wrap ((s : Int) + (n2 : Int)) = (s : Int) + (n2 : Int) := wrapI _ (by omega) (by omega)
      have hn : ¬ (s : Int) + (n2 : Int) < 0 := by omega
      go_wp2
      go_roundw
      case measure => simp [intOf]
      case rel => exact ⟨⟨2, s + n2, by omega, by simp, by simp, by simp⟩, True.intro⟩
    · rw [if_neg (by omega), if_neg (by omega)] at hs
      subst hs
      go_wp2_with fail
      go_at_call 69
      refine GR.out.mono ?_
      rintro e w1 ⟨v0, rfl, ho0, hb0⟩
      have HO0 := hidden ho0
      have HB0 := hidden hb0
      obtain ⟨W, EW⟩ := exh wr
      rw [← EW.out] at HO0 HB0 HX HR1 HR2
      clear ho0 hb0 x0 x1 GR
      go_wp2_with fail
      go_loopw [6, 8, 27] (fun v' _ i' w' => ∃ k : Nat, k ≤ 2 ∧ i' = .int .i64 (k : Int) ∧ Hid (w'.ownsRow W.heap.size 3 1 v' (if k = 0 then 0 else if k = 1 then n1 else n1 + n2) ((if k = 0 then [] else if k = 1 then l1 else l1 ++ l2).map iV)) ∧ Hid (Below W.heap.size W w')) (fun _ _ i' _ => 2 - (intOf i').toNat)
      case atStart => exact ⟨0, by omega, rfl, HO0.out, HB0.out⟩
      case round =>
        clear HO0 HB0
        obtain ⟨k, hk, rfl, HO, HB⟩ := hrel
        obtain ⟨x0, x1⟩ := HX.out wr HB.out
        have hk3 : k = 0 ∨ k = 1 ∨ k = 2 := by omega
        rcases hk3 with rfl | rfl | rfl
        · replace HO : Hid (wr.ownsRow W.heap.size 3 1 u6 0 []) := HO
          have hm1 : 0 + l1.length ≤ maxLen := by simp only [maxLen]; rw [← E1.out]; omega
          have hm2 : (0 + l1.length) * 8 ≤ 140737488355328 := by rw [← E1.out]; omega
          have hsz := HB.out.size
          have HIN := hidden (HR1.out.to HB.out)
          have tok : True := trivial
          go_wp2_with (have _t := tok; at_builtin; (refine wpList_append_ints _ rfl (.tmp 31) (.tmp 32) 24 rfl W.heap.size 3 ic _ 8 Tryd.underlying24 HI.out HZ.out HSI.out HBY.out rfl u6 0 _ rfl HO.out a1 c1 l1 (by show Value.slice a1 n1 c1 = _; rw [E1.out]) HIN.out.nil HIN.out.row hm1 hm2 hsz ?_; intro v6 w6 hown hgrow; have HB6 := hidden (grown_bare HB.out HO.out hgrow); have HO6 := hidden hown; clear tok hown hgrow))
          go_roundw
          case measure => simp [intOf]
          case rel => exact ⟨1, by omega, by simp, by have := HO6.out; rw [← E1.out, Nat.zero_add] at this; exact this, HB6.out⟩
        · replace HO : Hid (wr.ownsRow W.heap.size 3 1 u6 n1 (l1.map iV)) := HO
          have hm1 : n1 + l2.length ≤ maxLen := by simp only [maxLen]; rw [← E2.out]; omega
          have hm2 : (n1 + l2.length) * 8 ≤ 140737488355328 := by rw [← E2.out]; omega
          have hsz := HB.out.size
          have HIN := hidden (HR2.out.to HB.out)
          have tok : True := trivial
          go_wp2_with (have _t := tok; at_builtin; (refine wpList_append_ints _ rfl (.tmp 31) (.tmp 32) 24 rfl W.heap.size 3 ic _ 8 Tryd.underlying24 HI.out HZ.out HSI.out HBY.out rfl u6 n1 _ rfl HO.out a2 c2 l2 (by show Value.slice a2 n2 c2 = _; rw [E2.out]) HIN.out.nil HIN.out.row hm1 hm2 hsz ?_; intro v6 w6 hown hgrow; have HB6 := hidden (grown_bare HB.out HO.out hgrow); have HO6 := hidden hown; clear tok hown hgrow))
          go_roundw
          case measure => simp [intOf]
          case rel => exact ⟨2, by omega, by simp, by have := HO6.out; rw [← E2.out, ← List.map_append] at this; exact this, HB6.out⟩
        · replace HO : Hid (wr.ownsRow W.heap.size 3 1 u6 (n1 + n2) ((l1 ++ l2).map iV)) := HO
          go_wp2
          go_ret
          exact ⟨_, rfl, by rw [← EW.out]; exact HO.out, by rw [← EW.out]; exact HB.out⟩


end Go.Proofs.YtibjgoigdajkkaaDoor
