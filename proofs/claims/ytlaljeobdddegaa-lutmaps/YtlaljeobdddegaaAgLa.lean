import Derived.Test.YtlaljeobdddegaaAgL
namespace Go.Proofs.Ytlaljeobdddegaa
open Go.RowKit

theorem info_sl0 : (Try.prog.info? 30).map (fun i => (i.zero, i.size, i.bytes)) = some (some (.slice none 0 0), 1, 24) := by kernel_rfl
theorem info_sl : ∃ i, Try.prog.info? 30 = some i ∧ i.zero = some (.slice none 0 0) ∧ i.size = 1 ∧ i.bytes = 24 := by
  have h := info_sl0
  cases hi : Try.prog.info? 30 with
  | none => rw [hi] at h; cases h
  | some i => rw [hi] at h; simp at h; exact ⟨i, rfl, h.1, h.2.1, h.2.2⟩

set_option maxRecDepth 100000 in
set_option maxHeartbeats 4000000 in
theorem lit_any (w : World) (a : Option Addr) (c : Nat) (v : List Bool) (hv : RowAt w.heap.size w a 1 (v.map bC)) (hlen : v.length < big) (l : Int) (hl : InV v l) :
    Calls Try.prog 44 #[.slice a v.length c, .int .i64 l] w fun e w' => e = .returned (.bool (litV v l)) ∧ w' = w := by
  obtain ⟨h0, h1⟩ := hl
  simp only [big] at hlen
  obtain ⟨x, hx⟩ : ∃ x, v[(l / 2).toNat]? = some x := ⟨v[(l / 2).toNat]'(by omega), List.getElem?_eq_getElem (by omega)⟩
  obtain ⟨b, o, rfl, hb, hc⟩ := rowB hv hx
  have e : litV v l = (x != decide (l % 2 = 1)) := by unfold litV; rw [hx]; rfl
  rw [e]
  have hlt : l / 2 < (v.length : Int) := by omega
  have h2 : 0 ≤ l / 2 := by omega
  have q1 : Int.tdiv l 2 = l / 2 := by rw [Int.tdiv_eq_ediv_of_nonneg h0]
  have q2 : Int.tmod l 2 = l % 2 := by rw [Int.tmod_eq_emod_of_nonneg h0]
  clear e hx hv
  generalize l / 2 = m at *
  generalize hr : l % 2 = r at *
  have e1 : IntKind.i64.wrap m = m := wrapI _ (by omega) (by omega)
  have e2 : IntKind.i64.wrap r = r := wrapI _ (by omega) (by omega)
  go_enter Try.func44, Try.ntmps44
  go_wp2
  go_ret
  refine ⟨ret_bool ?_, rfl⟩
  have er : (r == 1) = decide (r = 1) := by rw [Bool.eq_iff_iff]; simp
  cases x <;> simp [er]

end Go.Proofs.Ytlaljeobdddegaa
