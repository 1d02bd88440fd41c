import Derived.Test.YtfemaahmafndmaaWdO
namespace Go.Proofs.Ytfemaahmafndmaa
open Go.RowKit

/-- a node in memory, at an address -/
structure NdAt (B : Nat) (w : World) (N : NetD) (nb no : Nat) (d : NodeD) : Prop where
  lt : nb < B
  cells : ∀ (j : Nat) (v : Value), d.cells[j]? = some v → w.cell? ⟨nb, no + j, none⟩ = some v
  args : RowAt B w d.aa 1 (d.args.map intC)
  len : d.args.length < big
  n0 : 0 ≤ d.num
  n1 : d.num < 18446744073709551616
theorem NdAt.to {B : Nat} {w w' : World} {N : NetD} {nb no : Nat} {d : NodeD} (h : NdAt B w N nb no d) (hb : Below B w w') : NdAt B w' N nb no d :=
  ⟨h.lt, fun j v hv => (hb.cell (p := ⟨nb, no + j, none⟩) h.lt).trans (h.cells j v hv), h.args.to hb, h.len, h.n0, h.n1⟩

theorem at0_ws {N : NetD} {l : List Int} {k : Nat} (hk : k < l.length) : at0 (wsOf N l) k = widthAt N (at0 l k) := by
  simp [at0, wsOf, List.getElem?_eq_getElem hk]

set_option maxRecDepth 100000 in
set_option maxHeartbeats 8000000 in
theorem wdth_any (B : Nat) (w : World) (cb : Nat) (S : NetS) (N : NetD) (h : CkAt B w cb S N) (nb no : Nat) (d : NodeD) (hd : NdAt B w N nb no d) (hin : ∀ a, a ∈ d.args → 0 ≤ a ∧ a < (N.nodes.length : Int)) (ub vb : Nat)
    (hu : w.cell? ⟨ub, 0, none⟩ = some (.pointer (some ⟨cb, 0, none⟩))) (hv : w.cell? ⟨vb, 0, none⟩ = some (.pointer (some ⟨nb, no, none⟩))) (k : Nat) (hk : k < d.args.length) (x : Int) (hx : x = (k : Int)) :
    Calls Try.prog 37 #[.int .i64 x, .pointer (some ⟨ub, 0, none⟩), .pointer (some ⟨vb, 0, none⟩)] w fun e w' => e = .returned (.int .i64 (at0 (wsOf N d.args) k)) ∧ Below w.heap.size w w' := by
  subst hx
  have hm : at0 d.args k ∈ d.args := List.mem_of_getElem? (at0_of hk)
  have hr := hin _ hm
  rw [at0_ws hk]
  obtain ⟨ab, ao, ea, hab, hac⟩ := hd.args.int hk
  have ca := hac k hk
  have c3 := hd.cells 3 _ rfl
  rw [ea] at c3
  have q1 : w.cell? ⟨cb, 1, none⟩ = some (.slice S.a1 N.nodes.length S.c1) := h.cells 1
  generalize at0 d.args k = a at *
  obtain ⟨y, hy⟩ : ∃ y, N.nodes[a.toNat]? = some y := ⟨N.nodes[a.toNat]'(by omega), List.getElem?_eq_getElem (by omega)⟩
  obtain ⟨b, o, eb, hlt, hc⟩ := h.net.n.el hy
  have c1 := hc 1 _ rfl
  rw [eb] at q1
  have e : widthAt N a = y.width := by unfold widthAt; rw [hy]; rfl
  rw [e]
  generalize y.width = wd at *
  have hkI : (k : Int) < (d.args.length : Int) := by omega
  obtain ⟨h0, h1⟩ := hr
  clear e eb hc hy hac ea hm hd h hin hk
  go_enter Try.func37, Try.ntmps37
  go_wp2_with fail
  go_quiet (fail)
  go_wp2
  go_ret
  exact ⟨rfl, Below.drewN (Below.refl _ _) _⟩

end Go.Proofs.Ytfemaahmafndmaa
