import Derived.Test.YtlkhmcajedjojaaJ17
namespace Go.Proofs.Ytlkhmcajedjojaa
open Go.RowKit

set_option maxRecDepth 100000 in
set_option maxHeartbeats 8000000 in
theorem wf_cat (B : Nat) (w : World) (cb : Nat) (S : NetS) (N : NetD) (h : CkAt B w cb S N) (hB : B ≤ w.heap.size) (nb no : Nat) (d : NodeD) (hd : NdAt B w N nb no d) (hin : ∀ a, a ∈ d.args → 0 ≤ a ∧ a < (N.nodes.length : Int)) (hk : d.kind = 7) (HWS : Hid (∀ x, x ∈ wsOf N d.args → 1 ≤ x ∧ x ≤ 32)) :
    Calls Try.prog 27 #[ckV cb, .pointer (some ⟨nb, no, none⟩)] w fun e w' => e = .returned (.bool (decide ((wsOf N d.args).sum = d.width))) ∧ Below w.heap.size w w' := by
  have c0 : w.cell? ⟨nb, no, none⟩ = some (.int .i64 d.kind) := hd.cells 0 _ rfl
  have c1 := hd.cells 1 _ rfl
  have c3 := hd.cells 3 _ rfl
  have hnb : nb < w.heap.size := Nat.lt_of_lt_of_le hd.lt hB
  have hlen := hd.len
  simp only [big] at hlen
  have CW0 : Hid (∀ (k : Nat), k < d.args.length → ∀ (x : Int), x = (k : Int) → ∀ w', Below w.heap.size w w' → ∀ ub vb, w'.cell? ⟨ub, 0, none⟩ = some (.pointer (some ⟨cb, 0, none⟩)) → w'.cell? ⟨vb, 0, none⟩ = some (.pointer (some ⟨nb, no, none⟩)) → Calls Try.prog 37 #[.int .i64 x, .pointer (some ⟨ub, 0, none⟩), .pointer (some ⟨vb, 0, none⟩)] w' fun e w'' => e = .returned (.int .i64 (at0 (wsOf N d.args) k)) ∧ Below w'.heap.size w' w'') :=
    fun k hk x hx w' hw' ub vb hu hv => wdth_any B w' cb S N (h.to (hw'.mono hB)) nb no d (hd.to (hw'.mono hB)) hin ub vb hu hv k hk x hx
  have hmf : ∀ (fn : Fn) (first cap : Array Value) (w : World), (Instr.makeFunc fn first cap).run Try.prog w = .ok (.func fn first cap) w := fun _ _ _ _ => rfl
  unfold ckV
  clear h hd hin
  obtain ⟨kind, width, num, args, aa, ac⟩ := d
  simp only at *
  have HL : Hid ((wsOf N args).length = args.length) := by show _ = _; simp [wsOf]
  generalize wsOf N args = ws at *
  subst hk
  all_goals
    go_enter Try.func27, Try.ntmps27
    go_wp2_with fail
    generalize hW : World.alloc (World.alloc w (.cells #[.pointer (some ⟨cb, 0, none⟩)] _)) (.cells #[.pointer (some ⟨nb, no, none⟩)] _) = W
    have HB : Hid (Below w.heap.size w W) := by rw [← hW]; exact ((Below.refl _ _).alloc (Nat.le_refl _) _).alloc (by simp) _
    have qu : W.cell? ⟨w.heap.size, 0, none⟩ = some (.pointer (some ⟨cb, 0, none⟩)) := by rw [← hW]; simp
    have qv : W.cell? ⟨w.heap.size + 1, 0, none⟩ = some (.pointer (some ⟨nb, no, none⟩)) := by rw [← hW]; simp
    have hU : w.heap.size < W.heap.size := by rw [← hW]; simp; omega
    have hV : w.heap.size + 1 < W.heap.size := by rw [← hW]; simp
    clear hW
    have k0 := (HB.out.cell (p := ⟨nb, no, none⟩) hnb).trans c0
    have k1 := (HB.out.cell (p := ⟨nb, no + 1, none⟩) hnb).trans c1
    have k3 := (HB.out.cell (p := ⟨nb, no + 3, none⟩) hnb).trans c3
    have hnW : nb < W.heap.size := Nat.lt_trans hnb hU
    clear c0 c1 c3
    have hws : Hid (∀ x, x ∈ ws → 1 ≤ x ∧ x ≤ 32) := HWS
    have CW : Hid (∀ (k : Nat), k < args.length → ∀ w', Below W.heap.size W w' → Calls Try.prog 37 #[.int .i64 k, .pointer (some ⟨w.heap.size, 0, none⟩), .pointer (some ⟨w.heap.size + 1, 0, none⟩)] w' fun e w'' => e = .returned (.int .i64 (at0 ws k)) ∧ Below w'.heap.size w' w'') :=
      fun k hk w' hw' => CW0.out k hk k rfl w' (HB.out.trans (hw'.mono HB.out.size)) _ _ ((hw'.cell (p := ⟨w.heap.size, 0, none⟩) hU).trans qu) ((hw'.cell (p := ⟨w.heap.size + 1, 0, none⟩) hV).trans qv)
    clear CW0 HWS
    go_wp2_with fail
    go_loopw [6, 101] (fun s i w' => ∃ (k : Nat) (t : Int), k ≤ args.length ∧ i = .int .i64 k ∧ s = .int .i64 t ∧ Hid (t = (ws.take k).sum) ∧ Hid (Below W.heap.size W w')) (fun _ i _ => args.length - (intOf i).toNat)
    case atStart => exact ⟨0, 0, Nat.zero_le _, rfl, rfl, by show _ = _; simp, Below.refl _ _⟩
    case round =>
      obtain ⟨k, t, hk, rfl, rfl, HT, HBr⟩ := hrel
      have ht := sum_bound ws hws.out k
      rw [← HT.out] at ht
      by_cases hlt : k < args.length
      · have hltW : k < ws.length := by rw [HL.out]; exact hlt
        have C := hidden (CW.out k hlt)
        have hx := hws.out (at0 ws k) (by simp [at0, List.getElem?_eq_getElem hltW])
        have hs := sum_take ws k hltW
        generalize at0 ws k = x at C hx hs
        have HS : Hid ((ws.take (k + 1)).sum = t + x) := by show _ = _; rw [hs, HT.out]
        clear hs HT
        have hltI : (k : Int) < (args.length : Int) := by omega
        have e1 : IntKind.i64.wrap (t + x) = t + x := wrapI _ (by omega) (by omega)
        have e2 : IntKind.i64.wrap ((k : Int) + 1) = (k : Int) + 1 := wrapI _ (by omega) (by omega)
        go_wp2_with (go_at_call 37; refine (C.out _ HBr.out).mono ?_; rintro e w2 ⟨rfl, hb2⟩)
        go_roundw
        case measure => simp [intOf]; omega
        case rel => exact ⟨k + 1, t + x, by omega, by simp, rfl, HS.out.symm, HBr.out.trans (hb2.mono HBr.out.size)⟩
      · have hge : ¬ ((k : Int) < (args.length : Int)) := by omega
        have HS : Hid (t = ws.sum) := by show _ = _; rw [HT.out, List.take_of_length_le (by rw [HL.out]; omega)]
        clear HT
        have p1 := (HBr.out.cell (p := ⟨nb, no + 1, none⟩) hnW).trans k1
        have pv := (HBr.out.cell (p := ⟨w.heap.size + 1, 0, none⟩) hV).trans qv
        go_wp2
        go_ret
        refine ⟨?_, HB.out.trans (HBr.out.mono HB.out.size)⟩
        rw [← HS.out]
        first | rfl | exact ret_bool (by rw [Bool.eq_iff_iff]; simp)

end Go.Proofs.Ytlkhmcajedjojaa

namespace Go.Proofs.Ytlkhmcajedjojaa
open Go.RowKit

set_option maxRecDepth 100000 in
set_option maxHeartbeats 8000000 in
theorem wf_other (B : Nat) (w : World) (cb : Nat) (S : NetS) (N : NetD) (_h : CkAt B w cb S N) (hB : B ≤ w.heap.size) (nb no : Nat) (d : NodeD) (hd : NdAt B w N nb no d) (hk : d.kind ≠ 8 ∧ d.kind ≠ 18 ∧ d.kind ≠ 19 ∧ d.kind ≠ 12 ∧ d.kind ≠ 13 ∧ d.kind ≠ 14 ∧ d.kind ≠ 15 ∧ d.kind ≠ 16 ∧ d.kind ≠ 17 ∧ d.kind ≠ 9 ∧ d.kind ≠ 10 ∧ d.kind ≠ 11 ∧ d.kind ≠ 20 ∧ d.kind ≠ 21 ∧ d.kind ≠ 22 ∧ d.kind ≠ 7) :
    Calls Try.prog 27 #[ckV cb, .pointer (some ⟨nb, no, none⟩)] w fun e w' => e = .returned (.bool (true)) ∧ Below w.heap.size w w' := by
  have c0 : w.cell? ⟨nb, no, none⟩ = some (.int .i64 d.kind) := hd.cells 0 _ rfl
  have c1 := hd.cells 1 _ rfl
  have c3 := hd.cells 3 _ rfl
  have hnb : nb < w.heap.size := Nat.lt_of_lt_of_le hd.lt hB
  have hlen := hd.len
  simp only [big] at hlen
  have hmf : ∀ (fn : Fn) (first cap : Array Value) (w : World), (Instr.makeFunc fn first cap).run Try.prog w = .ok (.func fn first cap) w := fun _ _ _ _ => rfl
  unfold ckV
  clear hd
  obtain ⟨kind, width, num, args, aa, ac⟩ := d
  simp only at *
  rcases hk with ⟨g8, g18, g19, g12, g13, g14, g15, g16, g17, g9, g10, g11, g20, g21, g22, g7⟩
  all_goals
    go_enter Try.func27, Try.ntmps27
    go_wp2_with fail
    generalize hW : World.alloc (World.alloc w (.cells #[.pointer (some ⟨cb, 0, none⟩)] _)) (.cells #[.pointer (some ⟨nb, no, none⟩)] _) = W
    have HB : Hid (Below w.heap.size w W) := by rw [← hW]; exact ((Below.refl _ _).alloc (Nat.le_refl _) _).alloc (by simp) _
    have qu : W.cell? ⟨w.heap.size, 0, none⟩ = some (.pointer (some ⟨cb, 0, none⟩)) := by rw [← hW]; simp
    have qv : W.cell? ⟨w.heap.size + 1, 0, none⟩ = some (.pointer (some ⟨nb, no, none⟩)) := by rw [← hW]; simp
    have hU : w.heap.size < W.heap.size := by rw [← hW]; simp; omega
    have hV : w.heap.size + 1 < W.heap.size := by rw [← hW]; simp
    clear hW
    have k0 := (HB.out.cell (p := ⟨nb, no, none⟩) hnb).trans c0
    have k1 := (HB.out.cell (p := ⟨nb, no + 1, none⟩) hnb).trans c1
    have k3 := (HB.out.cell (p := ⟨nb, no + 3, none⟩) hnb).trans c3
    have hnW : nb < W.heap.size := Nat.lt_trans hnb hU
    clear c0 c1 c3
    go_wp2
    go_ret
    exact ⟨rfl, HB.out⟩

end Go.Proofs.Ytlkhmcajedjojaa
