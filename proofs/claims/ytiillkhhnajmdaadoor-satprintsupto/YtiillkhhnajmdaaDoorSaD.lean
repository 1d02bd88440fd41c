import Derived.Test.YtiillkhhnajmdaaDoorSaB
import Derived.Test.YtiillkhhnajmdaaDoorSaC
namespace Go.Proofs.YtiillkhhnajmdaaDoor
open Go.RowKit

def clP (l : List Int) : List UInt8 := (l.map fun x => litT x ++ [32]).flatten
def clsT (cls : List CL) : List UInt8 := (cls.map fun t => clP t.l ++ [48, 10]).flatten
def headT (v : Int) (n : Nat) : List UInt8 := [112, 32, 99, 110, 102, 32] ++ decI v ++ [32] ++ decI n ++ [10]
/-- a formula's text -/
def fmT (v : Int) (cls : List CL) : List UInt8 := headT v cls.length ++ clsT cls
theorem clP_next (l : List Int) (j : Nat) (x : Int) (h : l[j]? = some x) : clP (l.take (j + 1)) = clP (l.take j) ++ litT x ++ [32] := by
  unfold clP
  rw [take_next l j x h, List.map_append, List.flatten_append]; simp
theorem clsT_next (cls : List CL) (k : Nat) (t : CL) (h : cls[k]? = some t) : clsT (cls.take (k + 1)) = clsT (cls.take k) ++ clP t.l ++ [48, 10] := by
  unfold clsT
  rw [take_next cls k t h, List.map_append, List.flatten_append]; simp
theorem lit_bound {v x : Int} (hv : v ≤ 100000) (h : litOk v x = true) : -100000 ≤ x ∧ x ≤ 100000 := by
  simp [litOk] at h; omega
def Lits (t : CL) : Prop := ∀ (j : Nat) (x : Int), t.l[j]? = some x → -100000 ≤ x ∧ x ≤ 100000
theorem lits_of {v : Int} {cls : List CL} (h : FmOk v cls = true) : (0 ≤ v ∧ v ≤ 100000) ∧ ∀ t, t ∈ cls → Lits t := by
  unfold FmOk at h
  simp only [Bool.and_eq_true, decide_eq_true_eq] at h
  obtain ⟨hv, ha⟩ := h
  refine ⟨hv, fun t ht j x hx => ?_⟩
  exact lit_bound hv.2 (List.all_eq_true.1 (List.all_eq_true.1 ha t ht) x (List.mem_of_getElem? hx))
def Whole (x : Int) (t : List UInt8) : Prop := ∀ w' : World, Calls Tryd.prog 9 #[.int .i64 x] w' fun e w'' => e = .returned (.string (bs t)) ∧ Below w'.heap.size w' w''
theorem whole_of (x : Int) (h0 : 0 ≤ x) (h1 : x < 4294967296) : ∃ t, Hid (Whole x t) ∧ Hid (t = decI x) ∧ t.length ≤ 10 :=
  ⟨decI x, fun w' => whole_any x h0 h1 w', rfl, decI_len h1⟩
theorem lit_of (x : Int) (h : -100000 ≤ x ∧ x ≤ 100000) : ∃ t, Hid (∀ w' : World, Calls Tryd.prog 10 #[.int .i64 x] w' fun e w'' => e = .returned (.string (bs t)) ∧ Below w'.heap.size w' w'') ∧ Hid (t = litT x) ∧ t.length ≤ 11 :=
  ⟨litT x, fun w' => literal_any x h.1 h.2 w', rfl, litT_len h.1 h.2⟩

set_option maxRecDepth 100000 in
set_option maxHeartbeats 8000000 in
theorem cnfPrint_any (B : Nat) (w : World) (a : Option Addr) (c : Nat) (v : Int) (cls : List CL) (h : ClAt B w a cls) (hB : B ≤ w.heap.size) (hok : FmOk v cls = true) :
    Calls Tryd.prog 6 #[.agg #[.int .i64 v, .slice a cls.length c]] w fun e w' => e = .returned (.string (bs (fmT v cls))) ∧ Below w.heap.size w w' := by
  obtain ⟨⟨hv0, hv1⟩, hli⟩ := lits_of hok
  have HAT := hidden h
  have HLI := hidden hli
  have HTO : Hid (total cls ≤ 1048576) := h.tot
  have hlen : cls.length ≤ 1048576 := Nat.le_trans (total_len cls) h.tot
  obtain ⟨n, HNN⟩ : ∃ n, Hid (cls.length = n) := ⟨_, rfl⟩
  have hn : n ≤ 1048576 := by rw [← HNN.out]; exact hlen
  obtain ⟨d0, W0, D0, l0⟩ := whole_of v hv0 (by omega)
  obtain ⟨d1, W1, D1, l1⟩ := whole_of (n : Int) (by omega) (by omega)
  obtain ⟨z0, Hz0, Lz0, Az0⟩ := add_to ⟨#[112, 32, 99, 110, 102, 32]⟩ (bs d0) [112, 32, 99, 110, 102, 32] d0 rfl rfl (by simp; omega)
  obtain ⟨z1, Hz1, Lz1, Az1⟩ := add_to (bs z0) ⟨#[32]⟩ z0 [32] rfl rfl (by simp at *; omega)
  obtain ⟨z2, Hz2, Lz2, Az2⟩ := add_to (bs z1) (bs d1) z1 d1 rfl rfl (by simp at *; omega)
  obtain ⟨z3, Hz3, Lz3, Az3⟩ := add_to (bs z2) ⟨#[10]⟩ z2 [10] rfl rfl (by simp at *; omega)
  have HT : Hid (z3 = headT v n) := by
    show _ = _
    unfold headT
    rw [Hz3.out, Hz2.out, Hz1.out, Hz0.out, D0.out, D1.out]
  have hz3 : z3.length ≤ 40 := by simp at *; omega
  have HFT : Hid (fmT v cls = z3 ++ clsT cls) := by show _ = _; unfold fmT; rw [HT.out, HNN.out]
  rw [HFT.out]
  rw [HNN.out] at hlen ⊢
  clear Hz0 Hz1 Hz2 Hz3 Lz0 Lz1 Lz2 Lz3 D0 D1 HFT HT h hok hli
  go_enter Tryd.func6, Tryd.ntmps6
  go_upto_region 1 with fail
  generalize hW : World.alloc w _ = W
  obtain ⟨gx, hgx⟩ : ∃ x, x = w.heap.size := ⟨_, rfl⟩
  have HBW : Hid (Below w.heap.size w W) := by rw [← hW]; exact (Below.refl _ _).alloc (Nat.le_refl _) _
  have HG : Hid (∀ j, W.cell? ⟨gx, j, none⟩ = (#[.int .i64 v, .slice a n c] : Array Value)[j]?) := by
    rw [← hW, hgx]; intro j; exact cell_new rfl
  have hgl : gx < W.heap.size := by rw [← hW, hgx]; simp
  have HATW : Hid (ClAt W.heap.size W a cls) := by
    rw [← hW]
    exact (HAT.out.to (((Below.refl _ _).alloc (Nat.le_refl _) _).mono hB)).mono (by simp; omega)
  rw [← hgx]
  clear hW hgx HAT
  have q0 := HG.out 0
  have q1 := HG.out 1
  simp at q0 q1
  have K2 : Hid (∀ w', Below W.heap.size W w' → w'.cell? ⟨gx, 0, none⟩ = some (.int .i64 v) ∧ w'.cell? ⟨gx, 1, none⟩ = some (.slice a n c)) := fun w' hb => ⟨(hb.cell (p := ⟨gx, 0, none⟩) hgl).trans q0, (hb.cell (p := ⟨gx, 1, none⟩) hgl).trans q1⟩
  clear q0 q1 HG
  (
  refine wp_region_noPanic ?_
  refine wp_region_held_drew (S := (fun w' => w'.cell? ⟨gx, 0, none⟩ = some (.int .i64 v) ∧ w'.cell? ⟨gx, 1, none⟩ = some (.slice a n c))) (by kernel_rfl) (by first | assumption | exact K2.out _ (by assumption) | exact K2.out _ (Below.refl _ _) | exact K2.out _ (Below.drew (Below.refl _ _))) (fun hHeld => ?_)
  refine wpAnyH_take (i := 0) (oi := _) (v := ?_) rfl (by kernel_rfl) (by kernel_rfl) (by kernel_rfl) (fun _ _ _ h => h) (Or.inl ⟨by rfl, ?_⟩) (by assumption) ?_
  rotate_left
  · (intro w0 hSw; (try dsimp only at hSw); (try simp only [List.getElem_toArray, List.getElem_cons_zero]); go_simp; try (with_reducible rfl))
  try simp only [Act.put, List.getElem_toArray, List.getElem_cons_zero, List.setIfInBounds_toArray, List.set_cons_zero, List.set_cons_succ]
  refine wpAnyH_take (i := 1) (oi := _) (v := ?_) rfl (by kernel_rfl) (by kernel_rfl) (by kernel_rfl) (fun _ _ _ h => h) (Or.inl ⟨by rfl, ?_⟩) (by assumption) ?_
  rotate_left
  · (intro w0 hSw; (try dsimp only at hSw); (try simp only [List.getElem_toArray, List.getElem_cons_zero, List.getElem_cons_succ]); go_simp; try (with_reducible rfl))
  try simp only [Act.put, List.getElem_toArray, List.getElem_cons_zero, List.getElem_cons_succ, List.setIfInBounds_toArray, List.set_cons_zero, List.set_cons_succ]
  refine wpAnyH_take (i := 5) (oi := _) (v := ?_) rfl (by kernel_rfl) (by kernel_rfl) (by kernel_rfl) (fun _ _ _ h => h) (Or.inl ⟨by rfl, ?_⟩) (by assumption) ?_
  rotate_left
  · (intro w0 hSw; (try dsimp only at hSw); (try simp only [List.getElem_toArray, List.getElem_cons_zero, List.getElem_cons_succ]); go_simp; try (with_reducible rfl))
  try simp only [Act.put, List.getElem_toArray, List.getElem_cons_zero, List.getElem_cons_succ, List.setIfInBounds_toArray, List.set_cons_zero, List.set_cons_succ]
  refine wpAnyH_take (i := 6) (oi := _) (v := ?_) rfl (by kernel_rfl) (by kernel_rfl) (by kernel_rfl) (fun _ _ _ h => h) (Or.inl ⟨by rfl, ?_⟩) (by assumption) ?_
  rotate_left
  · (intro w0 hSw; (try dsimp only at hSw); (try simp only [List.getElem_toArray, List.getElem_cons_zero, List.getElem_cons_succ]); go_simp; try (with_reducible rfl))
  try simp only [Act.put, List.getElem_toArray, List.getElem_cons_zero, List.getElem_cons_succ, List.setIfInBounds_toArray, List.set_cons_zero, List.set_cons_succ]
  refine wpAnyH_take (i := 7) (oi := _) (v := ?_) rfl (by kernel_rfl) (by kernel_rfl) (by kernel_rfl) (fun _ _ _ h => h) (Or.inl ⟨by rfl, ?_⟩) (by assumption) ?_
  rotate_left
  · (intro w0 hSw; (try dsimp only at hSw); (try simp only [List.getElem_toArray, List.getElem_cons_zero, List.getElem_cons_succ]); go_simp; try (with_reducible rfl))
  try simp only [Act.put, List.getElem_toArray, List.getElem_cons_zero, List.getElem_cons_succ, List.setIfInBounds_toArray, List.set_cons_zero, List.set_cons_succ]
  refine wpAnyH_ready (rs := [2]) (by kernel_rfl) (by simp) ?_
  refine AllReadyH.cons (o := _) rfl (fun K hK => ?_) AllReadyH.nil
  (try simp only [List.getElem_toArray, List.getElem_cons_zero, List.getElem_cons_succ])
  go_simp
  go_at_call 9
  refine (W0.out _).mono ?_
  rintro e x1 ⟨rfl, hb1⟩
  replace hb1 : Below W.heap.size W x1 := (Below.drew (Below.refl W.heap.size W)).trans hb1
  go_wp2_with fail
  refine hK.out _ _ (by first | assumption | exact K2.out _ (by assumption) | exact K2.out _ (Below.refl _ _) | exact K2.out _ (Below.drew (Below.refl _ _))) (fun hHeld1 => ?_)
  clear hK K
  try simp only [Act.put, List.setIfInBounds_toArray, List.set_cons_zero, List.set_cons_succ]
  refine wpAnyH_take (i := 3) (oi := _) (v := ?_) rfl (by kernel_rfl) (by kernel_rfl) (by kernel_rfl) (fun _ _ _ h => h) (Or.inl ⟨by rfl, ?_⟩) (by assumption) ?_
  rotate_left
  · (intro w0 hSw; (try dsimp only at hSw); (try simp only [List.getElem_toArray, List.getElem_cons_zero, List.getElem_cons_succ]); go_simp; try (with_reducible rfl))
  try simp only [Act.put, List.getElem_toArray, List.getElem_cons_zero, List.getElem_cons_succ, List.setIfInBounds_toArray, List.set_cons_zero, List.set_cons_succ]
  refine wpAnyH_take (i := 4) (oi := _) (v := ?_) rfl (by kernel_rfl) (by kernel_rfl) (by kernel_rfl) (fun _ _ _ h => h) (Or.inl ⟨by rfl, ?_⟩) (by assumption) ?_
  rotate_left
  · (intro w0 hSw; (try dsimp only at hSw); (try simp only [List.getElem_toArray, List.getElem_cons_zero, List.getElem_cons_succ]); go_simp; try (with_reducible rfl))
  try simp only [Act.put, List.getElem_toArray, List.getElem_cons_zero, List.getElem_cons_succ, List.setIfInBounds_toArray, List.set_cons_zero, List.set_cons_succ]
  refine wpAnyH_ready (rs := [8]) (by kernel_rfl) (by simp) ?_
  refine AllReadyH.cons (o := _) rfl (fun K hK => ?_) AllReadyH.nil
  (try simp only [List.getElem_toArray, List.getElem_cons_zero, List.getElem_cons_succ])
  go_simp
  go_at_call 9
  refine (W1.out _).mono ?_
  rintro e x2 ⟨rfl, hb2⟩
  replace hb2 : Below W.heap.size W x2 := hb1.trans (hb2.mono hb1.size)
  go_wp2_with fail
  refine hK.out _ _ (by first | assumption | exact K2.out _ (by assumption) | exact K2.out _ (Below.refl _ _) | exact K2.out _ (Below.drew (Below.refl _ _))) (fun hHeld2 => ?_)
  clear hK K
  try simp only [Act.put, List.setIfInBounds_toArray, List.set_cons_zero, List.set_cons_succ]
  refine wpAnyH_take (i := 9) (oi := _) (v := ?_) rfl (by kernel_rfl) (by kernel_rfl) (by kernel_rfl) (fun _ _ _ h => h) (Or.inl ⟨by rfl, ?_⟩) (by assumption) ?_
  rotate_left
  · (intro w0 hSw; (try dsimp only at hSw); (try simp only [List.getElem_toArray, List.getElem_cons_zero, List.getElem_cons_succ]); go_simp; try (with_reducible rfl))
  try simp only [Act.put, List.getElem_toArray, List.getElem_cons_zero, List.getElem_cons_succ, List.setIfInBounds_toArray, List.set_cons_zero, List.set_cons_succ]
  refine wpAnyH_take (i := 10) (oi := _) (v := ?_) rfl (by kernel_rfl) (by kernel_rfl) (by kernel_rfl) (fun _ _ _ h => h) (Or.inl ⟨by rfl, ?_⟩) (by assumption) ?_
  rotate_left
  · (intro w0 hSw; (try dsimp only at hSw); (try simp only [List.getElem_toArray, List.getElem_cons_zero, List.getElem_cons_succ]); go_simp; try (with_reducible rfl))
  try simp only [Act.put, List.getElem_toArray, List.getElem_cons_zero, List.getElem_cons_succ, List.setIfInBounds_toArray, List.set_cons_zero, List.set_cons_succ]
  refine wpAnyH_take (i := 11) (oi := _) (v := ?_) rfl (by kernel_rfl) (by kernel_rfl) (by kernel_rfl) (fun _ _ _ h => h) (Or.inl ⟨by rfl, ?_⟩) (by assumption) ?_
  rotate_left
  · (intro w0 hSw; (try dsimp only at hSw); (try simp only [List.getElem_toArray, List.getElem_cons_zero, List.getElem_cons_succ]); go_simp; try (with_reducible rfl))
  try simp only [Act.put, List.getElem_toArray, List.getElem_cons_zero, List.getElem_cons_succ, List.setIfInBounds_toArray, List.set_cons_zero, List.set_cons_succ]
  refine wpAnyH_done (by kernel_rfl) ?_ _
  refine NoPanic.normal ?_
  )
  have HB2 := hidden hb2
  clear hb1 hb2 W0 W1 Az0 Az1 Az2 Az3
  try clear hHeld
  try clear hHeld1
  try clear hHeld2
  go_wp2_with fail
  go_loopw [3, 4] (fun s' i' w' => ∃ (k : Nat) (s : List UInt8), k ≤ n ∧ i' = .int .i64 k ∧ s' = .string (bs s) ∧ s.length ≤ 40 + 12 * total (cls.take k) ∧ Hid (s = z3 ++ clsT (cls.take k)) ∧ Hid (Below W.heap.size W w')) (fun _ i' _ => n - (intOf i').toNat)
  case atStart => exact ⟨0, z3, Nat.zero_le _, rfl, rfl, by omega, by simp [Hid, clsT], HB2.out⟩
  case round =>
    obtain ⟨k, s, hk, rfl, rfl, hsl, HSS, HBr⟩ := hrel
    clear HB2
    obtain ⟨q0, q1⟩ := K2.out _ HBr.out
    by_cases hlt : k < n
    · obtain ⟨t, hz⟩ := getElem_lt (show k < cls.length by rw [HNN.out]; exact hlt)
      obtain ⟨tb, tz, ea, htb, htc⟩ := HATW.out.row.el hz
      subst ea
      have htm := List.mem_of_getElem? hz
      have HLT := hidden (HLI.out t htm)
      have htk := total_take cls k t hz
      have htk2 := total_le cls (k + 1)
      have HCN := hidden (clsT_next cls k t hz)
      have hto := HTO.out
      have hs1 : s.length + 12 * t.l.length + 2 ≤ 40 + 12 * total (cls.take (k + 1)) := by omega
      have hs2 : s.length ≤ 20000000 := by omega
      have htl : t.l.length ≤ 1048576 := by omega
      have HTR : Hid (RowAt W.heap.size W t.a 1 (t.l.map intC)) := HATW.out.each t htm
      have c0W : W.cell? ⟨tb, tz + k, none⟩ = some (.slice t.a t.l.length t.c) := by have := htc 0 _ rfl; simpa using this
      have HC0 : Hid (∀ w', Below W.heap.size W w' → w'.cell? ⟨tb, tz + k, none⟩ = some (.slice t.a t.l.length t.c)) := fun w' hb => (hb.cell (p := ⟨tb, tz + k, none⟩) htb).trans c0W
      have hltI : (k : Int) < (n : Int) := by omega
      have e3 : IntKind.i64.wrap ((k : Int) + 1) = (k : Int) + 1 := wrapI _ (by omega) (by omega)
      unfold Lits at HLT
      have HS1 := hidden hs1
      clear hz htc htm htk htk2 hto hsl hs1 c0W
      obtain ⟨tl, HTL⟩ : ∃ l, Hid (t.l.length = l) := ⟨_, rfl⟩
      rw [HTL.out] at HC0 htl HS1
      generalize t.a = tA at *
      generalize t.c = tC at *
      have c0 := HC0.out _ HBr.out
      go_wp2_with fail
      clear q0 q1 c0
      go_loopw [3, 5] (fun s' j' w' => ∃ (j : Nat) (s2 : List UInt8), j ≤ tl ∧ j' = .int .i64 j ∧ s' = .string (bs s2) ∧ s2.length ≤ s.length + 12 * j ∧ Hid (s2 = s ++ clP (t.l.take j)) ∧ Hid (Below W.heap.size W w')) (fun _ j' _ => tl - (intOf j').toNat)
      case atStart => exact ⟨0, s, Nat.zero_le _, rfl, rfl, by omega, by simp [Hid, clP], HBr.out⟩
      case round =>
        obtain ⟨j, s2, hj, rfl, rfl, hs2l, HS2, HBq⟩ := hrel
        obtain ⟨q0, q1⟩ := K2.out _ HBq.out
        have c0 := HC0.out _ HBq.out
        by_cases hjt : j < tl
        · obtain ⟨x, hx⟩ := getElem_lt (show j < t.l.length by rw [HTL.out]; exact hjt)
          obtain ⟨rb, ro, era, hrb, hcx⟩ := HTR.out.intR hx
          subst era
          have cx := (HBq.out.cell (p := ⟨rb, ro + j, none⟩) hrb).trans hcx
          obtain ⟨d, LI, DL, dl⟩ := lit_of x (HLT.out j x hx)
          have HPN := hidden (clP_next t.l j x hx)
          obtain ⟨y1, Hy1, Ly1, Ay1⟩ := add_to (bs s2) (bs d) s2 d rfl rfl (by omega)
          obtain ⟨y2, Hy2, Ly2, Ay2⟩ := add_to (bs y1) ⟨#[32]⟩ y1 [32] rfl rfl (by simp; omega)
          have HY : Hid (y2 = s ++ clP (t.l.take (j + 1))) := by
            show _ = _
            rw [Hy2.out, Hy1.out, HS2.out, HPN.out, DL.out]; simp
          have hy : y2.length ≤ s.length + 12 * (j + 1) := by simp at Ly2; omega
          have hjI : (j : Int) < (tl : Int) := by omega
          have ej : IntKind.i64.wrap ((j : Int) + 1) = (j : Int) + 1 := wrapI _ (by omega) (by omega)
          clear hx hcx HPN DL Hy1 Hy2 HS2 Ly1 Ly2
          go_wp2_with fail
          go_at_call 10
          refine (LI.out _).mono ?_
          rintro e x3 ⟨rfl, hb3⟩
          have HB3 : Hid (Below W.heap.size W x3) := HBq.out.trans (hb3.mono HBq.out.size)
          clear hb3 cx c0 q0 q1 LI
          go_wp2
          go_roundw
          case measure => simp [intOf]; omega
          case rel => exact ⟨j + 1, y2, by omega, by simp, rfl, hy, HY.out, HB3.out⟩
        · have hge : ¬ ((j : Int) < (tl : Int)) := by omega
          obtain ⟨y1, Hy1, Ly1, Ay1⟩ := add_to (bs s2) ⟨#[48, 10]⟩ s2 [48, 10] rfl rfl (by simp; omega)
          have HY : Hid (y1 = z3 ++ clsT (cls.take (k + 1))) := by
            show _ = _
            have h2 := HS2.out
            rw [List.take_of_length_le (by have := HTL.out; omega)] at h2
            rw [Hy1.out, h2, HSS.out, HCN.out]; simp
          have hy : y1.length ≤ 40 + 12 * total (cls.take (k + 1)) := by have := HS1.out; simp at Ly1; omega
          clear Hy1 HS2 Ly1 HS1
          go_wp2
          go_roundw
          case measure => simp [intOf]; omega
          case rel => exact ⟨k + 1, y1, by omega, by simp, rfl, hy, HY.out, HBq.out⟩
    · have hge : ¬ ((k : Int) < (n : Int)) := by omega
      have HF : Hid (s = z3 ++ clsT cls) := by
        have := HSS.out
        rwa [List.take_of_length_le (by have := HNN.out; omega)] at this
      clear HSS
      go_wp2
      go_ret
      exact ⟨ret_str (by rw [HF.out]), HBW.out.trans (HBr.out.mono HBW.out.size)⟩

end Go.Proofs.YtiillkhhnajmdaaDoor
