import Derived.Test.YtlkhmcajedjojaaJ16
import Derived.Test.YtlkhmcajedjojaaJ05
namespace Go.Proofs.Ytlkhmcajedjojaa
open Go.RowKit

/-- the widths that a node and its arguments have -/
def fitW (kind width : Int) (ws : List Int) : Bool :=
  if kind = 8 ∨ kind = 18 ∨ kind = 19 then decide (at0 ws 0 = width)
  else if 12 ≤ kind ∧ kind ≤ 17 then decide (at0 ws 0 = width ∧ at0 ws 1 = width)
  else if 9 ≤ kind ∧ kind ≤ 11 then decide (width = 1)
  else if kind = 20 ∨ kind = 21 then decide (width = 1 ∧ at0 ws 0 = at0 ws 1)
  else if kind = 22 then decide (at0 ws 0 = 1 ∧ at0 ws 1 = width ∧ at0 ws 2 = width)
  else if kind = 7 then decide (ws.sum = width)
  else true

set_option maxRecDepth 100000 in
set_option maxHeartbeats 8000000 in
theorem wf_one (B : Nat) (w : World) (cb : Nat) (S : NetS) (N : NetD) (h : CkAt B w cb S N) (hB : B ≤ w.heap.size) (nb no : Nat) (d : NodeD) (hd : NdAt B w N nb no d) (hin : ∀ a, a ∈ d.args → 0 ≤ a ∧ a < (N.nodes.length : Int)) (hk : d.kind = 8 ∨ d.kind = 18 ∨ d.kind = 19) (hl : 0 < d.args.length) :
    Calls Try.prog 27 #[ckV cb, .pointer (some ⟨nb, no, none⟩)] w fun e w' => e = .returned (.bool (decide (at0 (wsOf N d.args) 0 = d.width))) ∧ Below w.heap.size w w' := by
  have c0 : w.cell? ⟨nb, no, none⟩ = some (.int .i64 d.kind) := hd.cells 0 _ rfl
  have c1 := hd.cells 1 _ rfl
  have c3 := hd.cells 3 _ rfl
  have hnb : nb < w.heap.size := Nat.lt_of_lt_of_le hd.lt hB
  have hlen := hd.len
  simp only [big] at hlen
  have CW0 : Hid (∀ (k : Nat), k < d.args.length → ∀ (x : Int), x = (k : Int) → ∀ w', Below w.heap.size w w' → ∀ ub vb, w'.cell? ⟨ub, 0, none⟩ = some (.pointer (some ⟨cb, 0, none⟩)) → w'.cell? ⟨vb, 0, none⟩ = some (.pointer (some ⟨nb, no, none⟩)) → Calls Try.prog 37 #[.int .i64 x, .pointer (some ⟨ub, 0, none⟩), .pointer (some ⟨vb, 0, none⟩)] w' fun e w'' => e = .returned (.int .i64 (at0 (wsOf N d.args) k)) ∧ Below w'.heap.size w' w'') :=
    fun k hk x hx w' hw' ub vb hu hv => wdth_any B w' cb S N (h.to (hw'.mono hB)) nb no d (hd.to (hw'.mono hB)) hin ub vb hu hv k hk x hx
  have hmf : ∀ (fn : Fn) (first cap : Array Value) (w : World), (Instr.makeFunc fn first cap).run Try.prog w = .ok (.func fn first cap) w := fun _ _ _ _ => rfl
  unfold ckV
  clear h hd hin
  obtain ⟨kind, width, num, args, aa, ac⟩ := d
  simp only at *
  have P0 := hidden (CW0.out 0 (by omega) 0 rfl)
  clear CW0
  generalize at0 (wsOf N args) 0 = x0 at *
  rcases hk with rfl | rfl | rfl
  all_goals
    go_enter Try.func27, Try.ntmps27
    go_wp2_with fail
    generalize hW : World.alloc (World.alloc w (.cells #[.pointer (some ⟨cb, 0, none⟩)] _)) (.cells #[.pointer (some ⟨nb, no, none⟩)] _) = W
    have HB : Hid (Below w.heap.size w W) := by rw [← hW]; exact ((Below.refl _ _).alloc (Nat.le_refl _) _).alloc (by simp) _
    have qu : W.cell? ⟨w.heap.size, 0, none⟩ = some (.pointer (some ⟨cb, 0, none⟩)) := by rw [← hW]; simp
    have qv : W.cell? ⟨w.heap.size + 1, 0, none⟩ = some (.pointer (some ⟨nb, no, none⟩)) := by rw [← hW]; simp
    have hU : w.heap.size < W.heap.size := by rw [← hW]; simp; omega
    have hV : w.heap.size + 1 < W.heap.size := by rw [← hW]; simp
    clear hW
    have k0 := (HB.out.cell (p := ⟨nb, no, none⟩) hnb).trans c0
    have k1 := (HB.out.cell (p := ⟨nb, no + 1, none⟩) hnb).trans c1
    have k3 := (HB.out.cell (p := ⟨nb, no + 3, none⟩) hnb).trans c3
    have hnW : nb < W.heap.size := Nat.lt_trans hnb hU
    clear c0 c1 c3
    have A0 : Hid (∀ w', Below W.heap.size W w' → Calls Try.prog 37 #[.int .i64 0, .pointer (some ⟨w.heap.size, 0, none⟩), .pointer (some ⟨w.heap.size + 1, 0, none⟩)] w' fun e w'' => e = .returned (.int .i64 x0) ∧ Below w'.heap.size w' w'') :=
      fun w' hw' => P0.out w' (HB.out.trans (hw'.mono HB.out.size)) _ _ ((hw'.cell (p := ⟨w.heap.size, 0, none⟩) hU).trans qu) ((hw'.cell (p := ⟨w.heap.size + 1, 0, none⟩) hV).trans qv)
    clear P0
    go_wp2_with fail
    refine wp_region_noPanic ?_
    refine wp_region_held_drew (S := (fun w' => Below W.heap.size W w' ∧ (∀ b' o, b' < W.heap.size → w'.cell? ⟨b', o, none⟩ = W.cell? ⟨b', o, none⟩))) (by kernel_rfl) (by (first | assumption | exact sees_of (Below.refl _ _) | exact sees_of (Below.refl _ _).drew | exact sees_after (by assumption) (by assumption))) (fun hHeld => ?_)
    refine wpAnyH_take (i := 0) (oi := _) (v := ?_) rfl (by kernel_rfl) (by kernel_rfl) (by kernel_rfl) (fun _ _ _ h => h) (Or.inl ⟨by rfl, ?_⟩) (by assumption) ?_
    rotate_left
    · (intro w0 hSw; (try dsimp only at hSw); (try simp only [List.getElem_toArray, List.getElem_cons_zero]); go_simp; try (with_reducible rfl))
    try simp only [Act.put, List.getElem_toArray, List.getElem_cons_zero, List.setIfInBounds_toArray, List.set_cons_zero, List.set_cons_succ]
    refine wpAnyH_take (i := 2) (oi := _) (v := ?_) rfl (by kernel_rfl) (by kernel_rfl) (by kernel_rfl) (fun _ _ _ h => h) (Or.inl ⟨by rfl, ?_⟩) (by assumption) ?_
    rotate_left
    · (intro w0 hSw; (try dsimp only at hSw); (try simp only [List.getElem_toArray, List.getElem_cons_zero, List.getElem_cons_succ]); go_simp; try (with_reducible rfl))
    try simp only [Act.put, List.getElem_toArray, List.getElem_cons_zero, List.getElem_cons_succ, List.setIfInBounds_toArray, List.set_cons_zero, List.set_cons_succ]
    refine wpAnyH_take (i := 3) (oi := _) (v := ?_) rfl (by kernel_rfl) (by kernel_rfl) (by kernel_rfl) (fun _ _ _ h => h) (Or.inl ⟨by rfl, ?_⟩) (by assumption) ?_
    rotate_left
    · (intro w0 hSw; (try dsimp only at hSw); (try simp only [List.getElem_toArray, List.getElem_cons_zero, List.getElem_cons_succ]); go_simp; try (with_reducible rfl))
    try simp only [Act.put, List.getElem_toArray, List.getElem_cons_zero, List.getElem_cons_succ, List.setIfInBounds_toArray, List.set_cons_zero, List.set_cons_succ]
    refine wpAnyH_take (i := 4) (oi := _) (v := ?_) rfl (by kernel_rfl) (by kernel_rfl) (by kernel_rfl) (fun _ _ _ h => h) (Or.inl ⟨by rfl, ?_⟩) (by assumption) ?_
    rotate_left
    · (intro w0 hSw; (try dsimp only at hSw); (try simp only [List.getElem_toArray, List.getElem_cons_zero, List.getElem_cons_succ]); go_simp; try (with_reducible rfl))
    try simp only [Act.put, List.getElem_toArray, List.getElem_cons_zero, List.getElem_cons_succ, List.setIfInBounds_toArray, List.set_cons_zero, List.set_cons_succ]
    refine wpAnyH_take (i := 5) (oi := _) (v := ?_) rfl (by kernel_rfl) (by kernel_rfl) (by kernel_rfl) (fun _ _ _ h => h) (Or.inl ⟨by rfl, ?_⟩) (by assumption) ?_
    rotate_left
    · (intro w0 hSw; (try dsimp only at hSw); (try simp only [List.getElem_toArray, List.getElem_cons_zero, List.getElem_cons_succ]); go_simp; try (with_reducible rfl))
    try simp only [Act.put, List.getElem_toArray, List.getElem_cons_zero, List.getElem_cons_succ, List.setIfInBounds_toArray, List.set_cons_zero, List.set_cons_succ]
    refine wpAnyH_ready (rs := [1]) (by kernel_rfl) (by simp) ?_
    refine AllReadyH.cons (o := _) rfl (fun K hK => ?_) AllReadyH.nil
    (try simp only [List.getElem_toArray, List.getElem_cons_zero, List.getElem_cons_succ])
    go_simp
    go_at_call 37
    refine (A0.out _ (And.left (by assumption))).mono ?_
    rintro e w2 ⟨rfl, hb2⟩
    go_wp2_with fail
    refine hK.out _ _ (by (first | assumption | exact sees_of (Below.refl _ _) | exact sees_of (Below.refl _ _).drew | exact sees_after (by assumption) (by assumption))) (fun hHeld1 => ?_)
    clear hK K
    try simp only [Act.put, List.setIfInBounds_toArray, List.set_cons_zero, List.set_cons_succ]
    refine wpAnyH_take (i := 6) (oi := _) (v := ?_) rfl (by kernel_rfl) (by kernel_rfl) (by kernel_rfl) (fun _ _ _ h => h) (Or.inl ⟨by rfl, ?_⟩) (by assumption) ?_
    rotate_left
    · (intro w0 hSw; (try dsimp only at hSw); (try simp only [List.getElem_toArray, List.getElem_cons_zero, List.getElem_cons_succ]); go_simp; try (with_reducible rfl))
    try simp only [Act.put, List.getElem_toArray, List.getElem_cons_zero, List.getElem_cons_succ, List.setIfInBounds_toArray, List.set_cons_zero, List.set_cons_succ]
    refine wpAnyH_take (i := 7) (oi := _) (v := ?_) rfl (by kernel_rfl) (by kernel_rfl) (by kernel_rfl) (fun _ _ _ h => h) (Or.inl ⟨by rfl, ?_⟩) (by assumption) ?_
    rotate_left
    · (intro w0 hSw; (try dsimp only at hSw); (try simp only [List.getElem_toArray, List.getElem_cons_zero, List.getElem_cons_succ]); go_simp; try (with_reducible rfl))
    try simp only [Act.put, List.getElem_toArray, List.getElem_cons_zero, List.getElem_cons_succ, List.setIfInBounds_toArray, List.set_cons_zero, List.set_cons_succ]
    refine wpAnyH_done (by kernel_rfl) ?_ _
    refine NoPanic.normal ?_
    have HB2 : Hid (Below W.heap.size W _) := And.left (by assumption)
    go_wp2_with fail
    go_ret
    exact ⟨ret_bool (by first | rfl | (rw [Bool.eq_iff_iff]; simp) | rw [Bool.eq_iff_iff]), HB.out.trans (HB2.out.mono HB.out.size)⟩

set_option maxRecDepth 100000 in
set_option maxHeartbeats 8000000 in
theorem wf_width (B : Nat) (w : World) (cb : Nat) (S : NetS) (N : NetD) (_h : CkAt B w cb S N) (hB : B ≤ w.heap.size) (nb no : Nat) (d : NodeD) (hd : NdAt B w N nb no d) (hk : d.kind = 9 ∨ d.kind = 10 ∨ d.kind = 11) :
    Calls Try.prog 27 #[ckV cb, .pointer (some ⟨nb, no, none⟩)] w fun e w' => e = .returned (.bool (decide (d.width = 1))) ∧ Below w.heap.size w w' := by
  have c0 : w.cell? ⟨nb, no, none⟩ = some (.int .i64 d.kind) := hd.cells 0 _ rfl
  have c1 := hd.cells 1 _ rfl
  have c3 := hd.cells 3 _ rfl
  have hnb : nb < w.heap.size := Nat.lt_of_lt_of_le hd.lt hB
  have hlen := hd.len
  simp only [big] at hlen
  have hmf : ∀ (fn : Fn) (first cap : Array Value) (w : World), (Instr.makeFunc fn first cap).run Try.prog w = .ok (.func fn first cap) w := fun _ _ _ _ => rfl
  unfold ckV
  clear hd
  obtain ⟨kind, width, num, args, aa, ac⟩ := d
  simp only at *
  rcases hk with rfl | rfl | rfl
  all_goals
    go_enter Try.func27, Try.ntmps27
    go_wp2_with fail
    generalize hW : World.alloc (World.alloc w (.cells #[.pointer (some ⟨cb, 0, none⟩)] _)) (.cells #[.pointer (some ⟨nb, no, none⟩)] _) = W
    have HB : Hid (Below w.heap.size w W) := by rw [← hW]; exact ((Below.refl _ _).alloc (Nat.le_refl _) _).alloc (by simp) _
    have qu : W.cell? ⟨w.heap.size, 0, none⟩ = some (.pointer (some ⟨cb, 0, none⟩)) := by rw [← hW]; simp
    have qv : W.cell? ⟨w.heap.size + 1, 0, none⟩ = some (.pointer (some ⟨nb, no, none⟩)) := by rw [← hW]; simp
    have hU : w.heap.size < W.heap.size := by rw [← hW]; simp; omega
    have hV : w.heap.size + 1 < W.heap.size := by rw [← hW]; simp
    clear hW
    have k0 := (HB.out.cell (p := ⟨nb, no, none⟩) hnb).trans c0
    have k1 := (HB.out.cell (p := ⟨nb, no + 1, none⟩) hnb).trans c1
    have k3 := (HB.out.cell (p := ⟨nb, no + 3, none⟩) hnb).trans c3
    have hnW : nb < W.heap.size := Nat.lt_trans hnb hU
    clear c0 c1 c3
    go_wp2
    go_ret
    exact ⟨ret_bool (by first | rfl | (rw [Bool.eq_iff_iff]; simp) | rw [Bool.eq_iff_iff]), HB.out⟩

end Go.Proofs.Ytlkhmcajedjojaa
