import Derived.Test.YtibjgoigdajkkaaDoorJ27
import Derived.Test.YtibjgoigdajkkaaDoorJ26
namespace Go.Proofs.YtibjgoigdajkkaaDoor
open Go.RowKit

set_option maxRecDepth 100000 in
set_option maxHeartbeats 8000000 in
theorem pfirst_any (w : World) (p : Nat) (S : NtS) (N : NtD) (h : BoxAt w p S N) (h0 : 0 ≤ N.ins) (h1 : N.ins ≤ 60000) (h2 : N.init.length < huge) :
    Calls Tryd.prog 38 #[.pointer (some ⟨p, 0, none⟩)] w fun e w' => e = .returned (.int .i64 N.first) ∧ ∃ n, w' = w.drewN n := by
  simp only [huge] at h2
  obtain ⟨lt, c0, c1, c2, c3, c4⟩ := h
  go_enter Tryd.func38, Tryd.ntmps38
  go_wp2
  go_quiet (fail)
  go_wp2
  go_ret
  exact ⟨ret_int rfl, _, rfl⟩
def whr (f : Int → Option Int) (s : Int) : Int := (f s).getD 0
def ceV (d : CeD) (j : Nat) : Value := match j with
  | 0 => .int .i64 d.s0
  | 1 => .int .i64 d.s1
  | 2 => .int .i64 d.s2
  | 3 => .int .i64 d.s3
  | _ => .int .i64 d.bits
def ceSet (d : CeD) (j : Nat) (x : Int) : CeD := match j with
  | 0 => { d with s0 := x }
  | 1 => { d with s1 := x }
  | 2 => { d with s2 := x }
  | 3 => { d with s3 := x }
  | _ => { d with bits := x }
def ce0 : CeD := ⟨0, 0, 0, 0, 0⟩
def rowF (cs : Nat → CeD) (m : Nat) : Value := ceV (cs (m / 5)) (m % 5)
theorem rowF_at (cs : Nat → CeD) (r j : Nat) (hj : j < 5) : rowF cs (r * 5 + j) = ceV (cs r) j := by
  unfold rowF; rw [show (r * 5 + j) / 5 = r by omega, show (r * 5 + j) % 5 = j by omega]
theorem ceV_set (d : CeD) (j i : Nat) (x : Int) (hj : j < 5) (hi : i < 5) : ceV (ceSet d j x) i = if i = j then .int .i64 x else ceV d i := by
  have h1 : j = 0 ∨ j = 1 ∨ j = 2 ∨ j = 3 ∨ j = 4 := by omega
  have h2 : i = 0 ∨ i = 1 ∨ i = 2 ∨ i = 3 ∨ i = 4 := by omega
  rcases h1 with rfl | rfl | rfl | rfl | rfl <;> rcases h2 with rfl | rfl | rfl | rfl | rfl <;> rfl
theorem rowF_set (cs : Nat → CeD) (r j : Nat) (x : Int) (hj : j < 5) : upd (rowF cs) (r * 5 + j) (.int .i64 x) = rowF (upd cs r (ceSet (cs r) j x)) := by
  funext m
  by_cases e : m = r * 5 + j
  · subst e
    rw [upd_same, rowF_at _ _ _ hj, upd_same, ceV_set _ _ _ _ hj hj, if_pos rfl]
  · rw [upd_ne e]
    unfold rowF
    by_cases e2 : m / 5 = r
    · rw [e2, upd_same, ceV_set _ _ _ _ hj (Nat.mod_lt _ (by decide)), if_neg (by omega)]
    · rw [upd_ne e2]
/-- a row of cells in memory -/
def CeAt (w : World) (gb n : Nat) (cs : Nat → CeD) : Prop := Blk w gb 69 (tabL (n * 5) (rowF cs)).toArray
theorem CeAt.set {w : World} {gb n : Nat} {cs : Nat → CeD} (h : CeAt w gb n cs) (r j : Nat) (x : Int) (hj : j < 5) : CeAt (w.setCell ⟨gb, r * 5 + j, none⟩ (.int .i64 x)) gb n (upd cs r (ceSet (cs r) j x)) := by
  have := Blk.set h (r * 5 + j) (.int .i64 x)
  rw [tab_set, rowF_set _ _ _ _ hj] at this
  exact this
theorem CeAt.cell {w : World} {gb n : Nat} {cs : Nat → CeD} (h : CeAt w gb n cs) {r j : Nat} (hr : r < n) (hj : j < 5) : w.cell? ⟨gb, r * 5 + j, none⟩ = some (ceV (cs r) j) := by
  rw [← rowF_at cs r j hj]; exact Blk.cell h (tab_get (by omega))
def ceK (f : Int → Option Int) (d : TbD) : Nat → CeD
  | 0 => ceSet ce0 4 d.bits
  | k + 1 => ceSet (ceK f d k) k (whr f (d.ins.getD k 0))
def ceT (f : Int → Option Int) (d : TbD) : CeD := ceK f d d.ins.length
def ceP (f : Int → Option Int) (s : Int) : CeD := ⟨whr f s, 0, 0, 0, 2⟩
def tabOf (N : NtD) (k : Nat) : TbD := N.tabs.getD k ⟨none, 0, [], 0⟩
def ceO (D : PnS) (T : PnT) (N : NtD) (f : Int → Option Int) (c i : Nat) : CeD := if T.col i < (c : Int) then ceP f (D.sig i : Nat) else ceT f (tabOf N (D.sig i - N.first.toNat))
def rowC (D : PnS) (T : PnT) (N : NtD) (f : Int → Option Int) (c : Nat) (hl : List Nat) (k r : Nat) : CeD := if r < k then ceO D T N f c (hl.getD r 0) else ce0
theorem rowC_next (D : PnS) (T : PnT) (N : NtD) (f : Int → Option Int) (c : Nat) (hl : List Nat) (k x : Nat) (hx : hl[k]? = some x) : upd (rowC D T N f c hl k) k (ceO D T N f c x) = rowC D T N f c hl (k + 1) := by
  funext r
  unfold upd rowC
  by_cases e : r = k
  · rw [if_pos e, e, if_pos (by omega), getD_of hx]
  · rw [if_neg e]
    by_cases h : r < k
    · rw [if_pos h, if_pos (by omega)]
    · rw [if_neg h, if_neg (by omega)]
theorem made_cell (n : Nat) : (madeCells (Value.agg #[.int .i64 0, .int .i64 0, .int .i64 0, .int .i64 0, .int .i64 0]).cells (n * 5)).toList = tabL (n * 5) (rowF fun _ => ce0) := by
  have h1 : (madeCells (Value.agg #[.int .i64 0, .int .i64 0, .int .i64 0, .int .i64 0, .int .i64 0]).cells (n * 5)).toList = List.replicate (n * 5) (.int .i64 0) := by
    apply List.ext_getElem
    · simp [madeCells]
    · intro i h1 h2
      have : i % 5 < 5 := Nat.mod_lt _ (by decide)
      simp only [madeCells, Value.cells, Array.getElem_toList, Array.getElem_map, Array.getElem_range, List.getElem_replicate]
      show (#[Value.int .i64 0, .int .i64 0, .int .i64 0, .int .i64 0, .int .i64 0] : Array Value)[i % 5]! = _
      rcases (show i % 5 = 0 ∨ i % 5 = 1 ∨ i % 5 = 2 ∨ i % 5 = 3 ∨ i % 5 = 4 by omega) with e | e | e | e | e <;> rw [e] <;> rfl
  rw [h1]
  apply List.ext_getElem?
  intro i
  by_cases h : i < n * 5
  · rw [tabL_get h, List.getElem?_replicate_of_lt h]
    have h5 : i % 5 = 0 ∨ i % 5 = 1 ∨ i % 5 = 2 ∨ i % 5 = 3 ∨ i % 5 = 4 := by omega
    unfold rowF
    rcases h5 with e | e | e | e | e <;> rw [e] <;> rfl
  · rw [List.getElem?_eq_none (by rw [List.length_replicate]; omega), List.getElem?_eq_none (by rw [tabL_len]; omega)]
theorem info_cell : ∃ i, Tryd.prog.info? 69 = some i ∧ i.zero = some (.agg #[.int .i64 0, .int .i64 0, .int .i64 0, .int .i64 0, .int .i64 0]) ∧ i.size = 5 ∧ i.bytes = 40 := by
  have h : (Tryd.prog.info? 69).map (fun i => (i.zero, i.size, i.bytes)) = some (some (.agg #[.int .i64 0, .int .i64 0, .int .i64 0, .int .i64 0, .int .i64 0]), 5, 40) := by kernel_rfl
  cases hi : Tryd.prog.info? 69 with
  | none => rw [hi] at h; simp at h
  | some i => rw [hi] at h; simp at h; exact ⟨i, rfl, h.1, h.2.1, h.2.2⟩


end Go.Proofs.YtibjgoigdajkkaaDoor

namespace Go.Proofs.YtibjgoigdajkkaaDoor
open Go.RowKit

set_option maxRecDepth 100000 in
set_option maxHeartbeats 8000000 in
theorem ends_any (w : World) (p : Nat) (S : NtS) (N : NtD) (hx : BoxAt w p S N) (R1 : InL3 w S.a4 S.c4 N.outs) (R2 : InL3 w S.a3 S.c3 N.next) (h1 : N.outs.length ≤ 400000) (h2 : N.next.length ≤ 400000) :
    Calls Tryd.prog 39 #[.pointer (some ⟨p, 0, none⟩)] w fun e w' => ∃ v, e = .returned v ∧ w'.ownsRow w.heap.size 3 1 v (N.outs.length + N.next.length) ((N.outs ++ N.next).map iV) ∧ Below w.heap.size w w' := by
  have c4 := hx.c4
  have c3 := hx.c3
  have HAL : Hid (Below w.heap.size w (w.drew.alloc (.cells #[.slice S.a4 N.outs.length S.c4, .slice S.a3 N.next.length S.c3] 24))) := (Below.drew (Below.refl _ _)).alloc (Nat.le_refl _) _
  have CO := hidden (concat_any (w.drew.alloc (.cells #[.slice S.a4 N.outs.length S.c4, .slice S.a3 N.next.length S.c3] 24)) w.heap.size S.a4 S.a3 S.c4 S.c3 N.outs N.next (by simp) (Blk.cell (i := 0) (Blk.new w.drew _ _) rfl) (Blk.cell (i := 1) (Blk.new w.drew _ _) rfl) (R1.to HAL.out) (R2.to HAL.out) h1 h2)
  have hl := hx.lt
  obtain ⟨n1, E1⟩ := exh N.outs.length
  obtain ⟨n2, E2⟩ := exh N.next.length
  rw [← E1.out] at c4
  rw [← E2.out] at c3
  rw [← E1.out, ← E2.out] at CO HAL
  rw [← E1.out, ← E2.out]
  obtain ⟨l, El⟩ := exh (N.outs ++ N.next)
  rw [← El.out] at CO
  rw [← El.out]
  obtain ⟨g, Eg⟩ := exh w.heap.size
  clear hx R1 R2 h1 h2
  go_enter Tryd.func39, Tryd.ntmps39
  go_upto_region 1 with fail
  refine wp_region_noPanic ?_
  refine wp_region_held_drew (S := fun v => v.cell? ⟨p, 4, none⟩ = some (.slice S.a4 n1 S.c4) ∧ v.cell? ⟨p, 3, none⟩ = some (.slice S.a3 n2 S.c3)) (by kernel_rfl) (by exact ⟨c4, c3⟩) (fun hHeld => ?_)
  refine tk 0 ?_
  refine tk 1 ?_
  refine tk 2 ?_
  refine tk 3 ?_
  refine tk 4 ?_
  refine tk 5 ?_
  refine tk 6 ?_
  refine tk 7 ?_
  refine rd 8 fun K hK => ?_
  (try simp only [gA, gB, gC]); go_simp
  have e0 : w.drew.alloc (.cells #[.slice S.a4 n1 S.c4, .slice S.a3 n2 S.c3] 24) = (w.alloc (.cells #[.slice S.a4 n1 S.c4, .slice S.a3 n2 S.c3] 24)).drew := rfl
  rw [e0] at HAL CO
  clear e0
  have HS1 : Hid ((w.alloc (.cells #[.slice S.a4 n1 S.c4, .slice S.a3 n2 S.c3] 24)).drew.cell? ⟨p, 4, none⟩ = some (.slice S.a4 n1 S.c4) ∧ (w.alloc (.cells #[.slice S.a4 n1 S.c4, .slice S.a3 n2 S.c3] 24)).drew.cell? ⟨p, 3, none⟩ = some (.slice S.a3 n2 S.c3)) := ⟨(HAL.out.cell (p := ⟨p, 4, none⟩) hl).trans c4, (HAL.out.cell (p := ⟨p, 3, none⟩) hl).trans c3⟩
  generalize (w.alloc (.cells #[.slice S.a4 n1 S.c4, .slice S.a3 n2 S.c3] 24)).drew = w1 at *
  refine wo hK HS1.out fun hHeld2 => ?_
  clear hK K
  refine rd 9 fun K hK => ?_
  (try simp only [gA, gB, gC]); go_simp
  go_at_call 54
  refine CO.out.mono ?_
  rintro e w2 ⟨v, rfl, hov, hb2⟩
  have HO2 : Hid (w2.ownsRow w.heap.size 3 1 v (n1 + n2) (l.map iV)) := own_mono hov HAL.out.size
  have HB2 : Hid (Below w.heap.size w w2) := HAL.out.trans (hb2.mono HAL.out.size)
  have HS2 : Hid (w2.cell? ⟨p, 4, none⟩ = some (.slice S.a4 n1 S.c4) ∧ w2.cell? ⟨p, 3, none⟩ = some (.slice S.a3 n2 S.c3)) := ⟨(HB2.out.cell (p := ⟨p, 4, none⟩) hl).trans c4, (HB2.out.cell (p := ⟨p, 3, none⟩) hl).trans c3⟩
  clear hov hb2
  go_wp2_with fail
  refine wo hK HS2.out fun hHeld3 => ?_
  clear hK K
  refine tk 10 ?_
  refine wpAnyH_done (by kernel_rfl) ?_ _
  refine NoPanic.normal ?_
  clear hHeld hHeld2 hHeld3
  go_wp2
  go_ret
  exact ⟨_, rfl, HO2.out, HB2.out⟩


end Go.Proofs.YtibjgoigdajkkaaDoor

namespace Go.Proofs.YtibjgoigdajkkaaDoor
open Go.RowKit

/-- signals are marked -/
def markL (l : List Int) (nd : List Bool) : List Bool := l.foldl (fun nd s => nd.set s.toNat true) nd
theorem markL_len (l : List Int) (nd : List Bool) : (markL l nd).length = nd.length := by
  unfold markL
  induction l generalizing nd with
  | nil => rfl
  | cons x r ih => rw [List.foldl_cons, ih, List.length_set]
theorem markL_snoc (l : List Int) (s : Int) (nd : List Bool) : markL (l ++ [s]) nd = (markL l nd).set s.toNat true := by unfold markL; rw [List.foldl_append]; rfl
theorem markL_get (l : List Int) (nd : List Bool) (k : Nat) (hk : k < nd.length) : (markL l nd).getD k false = true ↔ nd.getD k false = true ∨ ∃ s, s ∈ l ∧ s.toNat = k := by
  induction l generalizing nd with
  | nil => exact ⟨fun h => Or.inl h, fun h => by rcases h with h | ⟨s, hs, _⟩; exact h; cases hs⟩
  | cons x r ih =>
    show (markL r (nd.set x.toNat true)).getD k false = true ↔ _
    rw [ih _ (by rw [List.length_set]; exact hk)]
    have e : (nd.set x.toNat true).getD k false = true ↔ nd.getD k false = true ∨ x.toNat = k := by
      rw [List.getD_eq_getElem?_getD, List.getD_eq_getElem?_getD]
      by_cases e : x.toNat = k
      · rw [e, List.getElem?_set_self hk]; simp
      · rw [List.getElem?_set_ne e]; simp [e]
    rw [e]
    constructor
    · rintro ((h | h) | ⟨s, hs, h⟩)
      · exact Or.inl h
      · exact Or.inr ⟨x, List.mem_cons_self, h⟩
      · exact Or.inr ⟨s, List.mem_cons_of_mem _ hs, h⟩
    · rintro (h | ⟨s, hs, h⟩)
      · exact Or.inl (Or.inl h)
      · rcases List.mem_cons.1 hs with rfl | hs
        · exact Or.inl (Or.inr h)
        · exact Or.inr ⟨s, hs, h⟩
set_option maxRecDepth 100000 in
set_option maxHeartbeats 8000000 in
theorem needOne_any (w : World) (pd g nn : Nat) (nd : List Bool) (hnn : nd.length = nn) (la : Option Addr) (lc : Nat) (l : List Int) (hl : l.length ≤ 1000000) (cp : w.cell? ⟨pd, 0, none⟩ = some (.slice (some ⟨g, 0, none⟩) nn nn)) (hpg : pd ≠ g) (R : RowAt w.heap.size w la 1 (l.map intC)) (hla : l ≠ [] → ∀ ad, la = some ad → ad.block ≠ g) (hin : ∀ s, s ∈ l → 0 ≤ s ∧ s < nn) (HB : Blk w g 4 (nd.map bV).toArray) :
    Calls Tryd.prog 52 #[.slice la l.length lc, .pointer (some ⟨pd, 0, none⟩)] w fun e w' => (∃ v, e = .returned v) ∧ Blk w' g 4 ((markL l nd).map bV).toArray ∧ But g w w' := by
  have HR := hidden R
  have HIN := hidden hin
  obtain ⟨ln, Eln⟩ := exh l.length
  rw [← Eln.out] at hl
  rw [← Eln.out]
  have HNN := hidden hnn
  have HPD := hidden (World.block_lt_of_cell? w _ cp)
  have HLA := hidden hla
  have HCP := hidden cp
  have HBK := hidden HB
  clear R hin hnn hla HB cp
  go_enter Tryd.func52, Tryd.ntmps52
  go_wp2_with fail
  go_loopw [4, 7] (fun _ i' w' => ∃ k : Nat, k ≤ ln ∧ i' = .int .i64 (k : Int) ∧ Hid (Blk w' g 4 ((markL (l.take k) nd).map bV).toArray) ∧ Hid (But g w w')) (fun _ i' _ => ln - (intOf i').toNat)
  case atStart => exact ⟨0, Nat.zero_le _, rfl, HBK.out, But.refl _ _⟩
  case round =>
    clear HBK
    obtain ⟨k, hk, rfl, HBK, HBU⟩ := hrel
    by_cases hlt : k < ln
    · have hltI : (k : Int) < (ln : Int) := by omega
      obtain ⟨s, hs⟩ := getElem_lt (show k < l.length by rw [← Eln.out]; exact hlt)
      obtain ⟨b, o, ea, hbl, hc⟩ := HR.out.int hs
      have hbg : b ≠ g := HLA.out (fun e => by rw [e] at hs; simp at hs) ⟨b, o, none⟩ ea
      have cx : wr.cell? ⟨b, o + k, none⟩ = some (.int .i64 s) := HBU.out.cell hc hbg
      have cp : wr.cell? ⟨pd, 0, none⟩ = some (.slice (some ⟨g, 0, none⟩) nn nn) := HBU.out.cell HCP.out hpg
      obtain ⟨hs0, hs1⟩ := HIN.out s (List.mem_of_getElem? hs)
      have hsl : s.toNat < (markL (l.take k) nd).length := by rw [markL_len, HNN.out]; omega
      obtain ⟨old, hold⟩ : ∃ old, ((markL (l.take k) nd).map bV).toArray[s.toNat]? = some old := ⟨_, by rw [List.getElem?_toArray, List.getElem?_map, List.getElem?_eq_getElem hsl]; rfl⟩
      have cq := HBK.out.cell hold
      have cf := HBK.out.frozen s.toNat
      have HN : Hid (Blk (wr.setCell ⟨g, s.toNat, none⟩ (.bool true)) g 4 ((markL (l.take (k + 1)) nd).map bV).toArray) := by
        show Blk _ _ _ _
        have := HBK.out.set s.toNat (.bool true)
        rw [List.setIfInBounds_toArray, show Value.bool true = bV true from rfl, ← List.map_set, ← markL_snoc, ← take_next _ k _ hs] at this
        exact this
      have HB2 : Hid (But g w (wr.setCell ⟨g, s.toNat, none⟩ (.bool true))) := HBU.out.trans (But.set g _ wr _)
      have e2 : IntKind.i64.wrap ((k : Int) + 1) = (k : Int) + 1 := wrapI _ (by omega) (by omega)
      subst ea
      clear hs hc hold hsl HBK HBU
      go_wp2
      go_roundw
      case measure => simp [intOf]; omega
      case rel => exact ⟨k + 1, by omega, by simp, HN.out, HB2.out⟩
    · obtain rfl : k = ln := by omega
      have hge : ¬ (k : Int) < (k : Int) := by omega
      have HF : Hid (Blk wr g 4 ((markL l nd).map bV).toArray) := by
        have := HBK.out
        rw [List.take_of_length_le (by rw [← Eln.out]; exact Nat.le_refl _)] at this
        exact this
      go_wp2
      go_end0
      exact ⟨⟨_, rfl⟩, HF.out, HBU.out⟩


end Go.Proofs.YtibjgoigdajkkaaDoor
