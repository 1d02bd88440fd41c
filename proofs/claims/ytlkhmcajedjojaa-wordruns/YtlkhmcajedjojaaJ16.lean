import Derived.Test.YtlkhmcajedjojaaJ08
import Derived.Test.YtlkhmcajedjojaaJ09
namespace Go.Proofs.Ytlkhmcajedjojaa
open Go.RowKit

set_option maxRecDepth 100000 in
set_option maxHeartbeats 8000000 in
theorem hasWidth_any (B : Nat) (w : World) (cb : Nat) (S : NetS) (N : NetD) (h : CkAt B w cb S N) (hB : B ≤ w.heap.size) (i x : Int) :
    Calls Try.prog 29 #[ckV cb, .int .i64 i, .int .i64 x] w fun e w' => e = .returned (.bool (wideOf N i x)) ∧ Below w.heap.size w w' := by
  have IN : Hid (∀ w', Below w.heap.size w w' → Calls Try.prog 17 #[ckV cb, .int .i64 i] w' fun e w'' => e = .returned (.bool (outOk N i)) ∧ Below w'.heap.size w' w'') := fun w' hw' => isNode_any B w' cb S N (h.to (hw'.mono hB)) (Nat.le_trans hB hw'.size) i
  unfold ckV at *
  by_cases hi : 0 ≤ i ∧ i < (N.nodes.length : Int)
  · obtain ⟨d, hd⟩ : ∃ d, N.nodes[i.toNat]? = some d := ⟨N.nodes[i.toNat]'(by omega), List.getElem?_eq_getElem (by omega)⟩
    obtain ⟨b, o, ha, hlt, hc⟩ := h.net.n.el hd
    have c1 := hc 1 _ rfl
    have hb : b < w.heap.size := Nat.lt_of_lt_of_le hlt hB
    have q1 : w.cell? ⟨cb, 1, none⟩ = some (.slice S.a1 N.nodes.length S.c1) := h.cells 1
    rw [ha] at q1
    have hcb : cb < w.heap.size := Nat.lt_of_lt_of_le h.lt hB
    have e : wideOf N i x = decide (d.width = x) := by unfold wideOf; rw [hd]; simp [hi.1]
    have e2 : outOk N i = true := by unfold outOk; simp [hi]
    rw [e2] at IN
    rw [e]
    clear e e2 ha hc h hd
    obtain ⟨h0, h1⟩ := hi
    go_enter Try.func29, Try.ntmps29
    go_wp2_with fail
    generalize hW : w.alloc (.cells #[.pointer (some ⟨cb, 0, none⟩)] 37) = W
    have HB : Hid (Below w.heap.size w W) := by rw [← hW]; exact (Below.refl _ _).alloc (Nat.le_refl _) _
    have qx : W.cell? ⟨w.heap.size, 0, none⟩ = some (.pointer (some ⟨cb, 0, none⟩)) := by rw [← hW]; simp
    have hN : w.heap.size < W.heap.size := by rw [← hW]; simp
    clear hW

    go_wp2_with (go_at_call 17; refine (IN.out _ HB.out).mono ?_; rintro e w2 ⟨rfl, hb2⟩; have qx2 := (hb2.cell (p := ⟨w.heap.size, 0, none⟩) hN).trans qx; have q12 := ((HB.out.trans (hb2.mono HB.out.size)).cell (p := ⟨cb, 1, none⟩) hcb).trans q1; have c12 := ((HB.out.trans (hb2.mono HB.out.size)).cell (p := ⟨b, o + i.toNat * 4 + 1, none⟩) hb).trans c1; have HB2 := hidden (HB.out.trans (hb2.mono HB.out.size)); clear qx q1 c1 hb2)
    go_ret
    exact ⟨rfl, HB2.out⟩
  · have e : wideOf N i x = false := by
      unfold wideOf
      rw [decide_eq_false_iff_not]
      rintro ⟨h0, d, hd, -⟩
      have := (List.getElem?_eq_some_iff.1 hd).1
      omega
    have e2 : outOk N i = false := by unfold outOk; rw [decide_eq_false_iff_not]; omega
    rw [e2] at IN
    rw [e]
    clear e e2 hi h
    go_enter Try.func29, Try.ntmps29
    go_wp2_with fail
    generalize hW : w.alloc (.cells #[.pointer (some ⟨cb, 0, none⟩)] 37) = W
    have HB : Hid (Below w.heap.size w W) := by rw [← hW]; exact (Below.refl _ _).alloc (Nat.le_refl _) _
    have qx : W.cell? ⟨w.heap.size, 0, none⟩ = some (.pointer (some ⟨cb, 0, none⟩)) := by rw [← hW]; simp
    have hN : w.heap.size < W.heap.size := by rw [← hW]; simp
    clear hW

    go_wp2_with (go_at_call 17; refine (IN.out _ HB.out).mono ?_; rintro e w2 ⟨rfl, hb2⟩; have HB2 := hidden (HB.out.trans (hb2.mono HB.out.size)); clear hb2)
    go_ret
    exact ⟨rfl, HB2.out⟩

set_option maxRecDepth 100000 in
set_option maxHeartbeats 8000000 in
theorem memory_any (B : Nat) (w : World) (cb : Nat) (S : NetS) (N : NetD) (h : CkAt B w cb S N) (hB : B ≤ w.heap.size) (k : Nat) (z : MemD) (hz : N.mems[k]? = some z) :
    Calls Try.prog 12 #[ckV cb, .int .i64 k] w fun e w' => e = .returned (.bool (memOk z)) ∧ Below w.heap.size w w' := by
  unfold ckV
  obtain ⟨b, o, ha, hlt, hc⟩ := h.net.m.el hz
  have hk : (k : Int) < (N.mems.length : Int) := by have := (List.getElem?_eq_some_iff.1 hz).1; omega
  have c0 : w.cell? ⟨b, o + k * 2, none⟩ = _ := hc 0 _ rfl
  have c1 := hc 1 _ rfl
  have hb : b < w.heap.size := Nat.lt_of_lt_of_le hlt hB
  have q3 : w.cell? ⟨cb, 3, none⟩ = some (.slice S.a3 N.mems.length S.c3) := h.cells 3
  rw [ha] at q3
  have hcb : cb < w.heap.size := Nat.lt_of_lt_of_le h.lt hB
  have HM := hidden (show memOk z = (widthOk z.width && decide (1 ≤ z.words ∧ z.words ≤ 256)) from rfl)
  have WD : Hid (∀ w, Calls Try.prog 11 #[.int .i64 z.width] w fun e w' => e = .returned (.bool (widthOk z.width)) ∧ w' = w) := fun w => isWidth_any z.width w
  rw [HM.out]
  clear HM ha hc h hz
  obtain ⟨wd, nw⟩ := z
  simp only at c0 c1 WD ⊢
  generalize widthOk wd = wo at *
  have hcs : wo = false ∨ (wo = true ∧ ¬ 1 ≤ nw) ∨ (wo = true ∧ 1 ≤ nw ∧ ¬ nw ≤ 256) ∨ (wo = true ∧ 1 ≤ nw ∧ nw ≤ 256) := by
    cases wo <;> simp; omega
  rcases hcs with rfl | ⟨rfl, g1⟩ | ⟨rfl, g1, g2⟩ | ⟨rfl, g1, g2⟩
  all_goals
    go_enter Try.func12, Try.ntmps12
    go_wp2_with (go_at_call 11; refine (WD.out _).mono ?_; rintro e w' ⟨rfl, rfl⟩)
    go_ret
    exact ⟨ret_bool (by first | rfl | (symm; simp; omega)), (Below.refl _ _).alloc (Nat.le_refl _) _⟩

end Go.Proofs.Ytlkhmcajedjojaa

namespace Go.Proofs.Ytlkhmcajedjojaa
open Go.RowKit

/-- a node in memory, at an address -/
structure NdAt (B : Nat) (w : World) (N : NetD) (nb no : Nat) (d : NodeD) : Prop where
  lt : nb < B
  cells : ∀ (j : Nat) (v : Value), d.cells[j]? = some v → w.cell? ⟨nb, no + j, none⟩ = some v
  args : RowAt B w d.aa 1 (d.args.map intC)
  len : d.args.length < big
  n0 : 0 ≤ d.num
  n1 : d.num < 18446744073709551616
theorem NdAt.to {B : Nat} {w w' : World} {N : NetD} {nb no : Nat} {d : NodeD} (h : NdAt B w N nb no d) (hb : Below B w w') : NdAt B w' N nb no d :=
  ⟨h.lt, fun j v hv => (hb.cell (p := ⟨nb, no + j, none⟩) h.lt).trans (h.cells j v hv), h.args.to hb, h.len, h.n0, h.n1⟩

theorem at0_ws {N : NetD} {l : List Int} {k : Nat} (hk : k < l.length) : at0 (wsOf N l) k = widthAt N (at0 l k) := by
  simp [at0, wsOf, List.getElem?_eq_getElem hk]

set_option maxRecDepth 100000 in
set_option maxHeartbeats 8000000 in
theorem wdth_any (B : Nat) (w : World) (cb : Nat) (S : NetS) (N : NetD) (h : CkAt B w cb S N) (nb no : Nat) (d : NodeD) (hd : NdAt B w N nb no d) (hin : ∀ a, a ∈ d.args → 0 ≤ a ∧ a < (N.nodes.length : Int)) (ub vb : Nat)
    (hu : w.cell? ⟨ub, 0, none⟩ = some (.pointer (some ⟨cb, 0, none⟩))) (hv : w.cell? ⟨vb, 0, none⟩ = some (.pointer (some ⟨nb, no, none⟩))) (k : Nat) (hk : k < d.args.length) (x : Int) (hx : x = (k : Int)) :
    Calls Try.prog 37 #[.int .i64 x, .pointer (some ⟨ub, 0, none⟩), .pointer (some ⟨vb, 0, none⟩)] w fun e w' => e = .returned (.int .i64 (at0 (wsOf N d.args) k)) ∧ Below w.heap.size w w' := by
  subst hx
  have hm : at0 d.args k ∈ d.args := List.mem_of_getElem? (at0_of hk)
  have hr := hin _ hm
  rw [at0_ws hk]
  obtain ⟨ab, ao, ea, hab, hac⟩ := hd.args.int hk
  have ca := hac k hk
  have c3 := hd.cells 3 _ rfl
  rw [ea] at c3
  have q1 : w.cell? ⟨cb, 1, none⟩ = some (.slice S.a1 N.nodes.length S.c1) := h.cells 1
  generalize at0 d.args k = a at *
  obtain ⟨y, hy⟩ : ∃ y, N.nodes[a.toNat]? = some y := ⟨N.nodes[a.toNat]'(by omega), List.getElem?_eq_getElem (by omega)⟩
  obtain ⟨b, o, eb, hlt, hc⟩ := h.net.n.el hy
  have c1 := hc 1 _ rfl
  rw [eb] at q1
  have e : widthAt N a = y.width := by unfold widthAt; rw [hy]; rfl
  rw [e]
  generalize y.width = wd at *
  have hkI : (k : Int) < (d.args.length : Int) := by omega
  obtain ⟨h0, h1⟩ := hr
  clear e eb hc hy hac ea hm hd h hin hk
  go_enter Try.func37, Try.ntmps37
  go_wp2_with fail
  go_quiet (fail)
  go_wp2
  go_ret
  exact ⟨rfl, Below.drewN (Below.refl _ _) _⟩

end Go.Proofs.Ytlkhmcajedjojaa
