import Derived.Test.YtfemaahmafndmaaWdS
namespace Go.Proofs.Ytfemaahmafndmaa
open Go.RowKit

set_option maxRecDepth 100000 in
set_option maxHeartbeats 8000000 in
theorem wf_other (B : Nat) (w : World) (cb : Nat) (S : NetS) (N : NetD) (_h : CkAt B w cb S N) (hB : B ≤ w.heap.size) (nb no : Nat) (d : NodeD) (hd : NdAt B w N nb no d) (hk : d.kind ≠ 8 ∧ d.kind ≠ 18 ∧ d.kind ≠ 19 ∧ d.kind ≠ 12 ∧ d.kind ≠ 13 ∧ d.kind ≠ 14 ∧ d.kind ≠ 15 ∧ d.kind ≠ 16 ∧ d.kind ≠ 17 ∧ d.kind ≠ 9 ∧ d.kind ≠ 10 ∧ d.kind ≠ 11 ∧ d.kind ≠ 20 ∧ d.kind ≠ 21 ∧ d.kind ≠ 22 ∧ d.kind ≠ 7) :
    Calls Try.prog 27 #[ckV cb, .pointer (some ⟨nb, no, none⟩)] w fun e w' => e = .returned (.bool (true)) ∧ Below w.heap.size w w' := by
  have c0 : w.cell? ⟨nb, no, none⟩ = some (.int .i64 d.kind) := hd.cells 0 _ rfl
  have c1 := hd.cells 1 _ rfl
  have c3 := hd.cells 3 _ rfl
  have hnb : nb < w.heap.size := Nat.lt_of_lt_of_le hd.lt hB
  have hlen := hd.len
  simp only [big] at hlen
  have hmf : ∀ (fn : Fn) (first cap : Array Value) (w : World), (Instr.makeFunc fn first cap).run Try.prog w = .ok (.func fn first cap) w := fun _ _ _ _ => rfl
  unfold ckV
  clear hd
  obtain ⟨kind, width, num, args, aa, ac⟩ := d
  simp only at *
  rcases hk with ⟨g8, g18, g19, g12, g13, g14, g15, g16, g17, g9, g10, g11, g20, g21, g22, g7⟩
  all_goals
    go_enter Try.func27, Try.ntmps27
    go_wp2_with fail
    generalize hW : World.alloc (World.alloc w (.cells #[.pointer (some ⟨cb, 0, none⟩)] _)) (.cells #[.pointer (some ⟨nb, no, none⟩)] _) = W
    have HB : Hid (Below w.heap.size w W) := by rw [← hW]; exact ((Below.refl _ _).alloc (Nat.le_refl _) _).alloc (by simp) _
    have qu : W.cell? ⟨w.heap.size, 0, none⟩ = some (.pointer (some ⟨cb, 0, none⟩)) := by rw [← hW]; simp
    have qv : W.cell? ⟨w.heap.size + 1, 0, none⟩ = some (.pointer (some ⟨nb, no, none⟩)) := by rw [← hW]; simp
    have hU : w.heap.size < W.heap.size := by rw [← hW]; simp; omega
    have hV : w.heap.size + 1 < W.heap.size := by rw [← hW]; simp
    clear hW
    have k0 := (HB.out.cell (p := ⟨nb, no, none⟩) hnb).trans c0
    have k1 := (HB.out.cell (p := ⟨nb, no + 1, none⟩) hnb).trans c1
    have k3 := (HB.out.cell (p := ⟨nb, no + 3, none⟩) hnb).trans c3
    have hnW : nb < W.heap.size := Nat.lt_trans hnb hU
    clear c0 c1 c3
    go_wp2
    go_ret
    exact ⟨rfl, HB.out⟩

end Go.Proofs.Ytfemaahmafndmaa
