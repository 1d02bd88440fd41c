import Derived.Test.YtiillkhhnajmdaaDoorSaD
import Derived.Test.YtiillkhhnajmdaaDoorSaE
import Derived.Test.YtiillkhhnajmdaaDoorShl
import Derived.Lib.AppendIntMem
namespace Go.Proofs.YtiillkhhnajmdaaDoor
open Go.RowKit

theorem own_below {w w' : World} {B e size n : Nat} {v : Value} {xs : List Value} (h : w.ownsRow B e size v n xs) (hb : Below w.heap.size w w') : w'.ownsRow B e size v n xs := by
  refine ⟨h.1, ?_⟩
  rcases h.2 with h0 | ⟨g, cap, cur, hv, h1, h2, h3⟩
  · exact .inl h0
  · refine .inr ⟨g, cap, cur, hv, h1, ?_, h3⟩
    have hl : g < w.heap.size := by
      rcases Nat.lt_or_ge g w.heap.size with h' | h'
      · exact h'
      · simp [Array.getElem?_eq_none h'] at h2
    rw [hb.block g hl]; exact h2
theorem at_to {T e : TypeId} {B b : Nat} {p : Value} {bs : List Value} {w w' : World} (h : Lib.BuilderAt T e B b p bs w) (hb : Below w.heap.size w w') : Lib.BuilderAt T e B b p bs w' := by
  have hl := h.lt
  obtain ⟨h0, v, h1, h2, h3⟩ := h
  exact ⟨h0, v, (hb.block b hl).trans h1, own_below h2 hb, h3⟩
theorem bat_to {B b : Nat} {l : List UInt8} {w w' : World} (h : BAt B b l w) (hb : Below w.heap.size w w') : BAt B b l w' := by
  rcases h with h | h
  · exact Or.inl (at_to h hb)
  · exact Or.inr (at_to h hb)
def Tens (w : World) : Prop := Lib.TabIs Tryd.prog w "internal/strconv.uint64pow10" .u64 Lib.pow10Tab
theorem Tens.to {B : Nat} {w w' : World} (h : Tens w) (hb : Below B w w') (hB : Tryd.prog.globals.size ≤ B) : Tens w' := by
  unfold Tens Lib.TabIs World.var? at *
  cases hg : Tryd.prog.globalNamed "internal/strconv.uint64pow10" with
  | none => rw [hg] at h; simp at h
  | some g =>
    have hlt : g < Tryd.prog.globals.size := by
      have e : (match Tryd.prog.globalNamed "internal/strconv.uint64pow10" with | some g => decide (g < Tryd.prog.globals.size) | none => true) = true := by kernel_rfl
      rw [hg] at e
      simpa using e
    rw [hg] at h
    simp only [Option.bind_some] at *
    rw [hb.block g (by omega)]; exact h
theorem dec_same (u : Nat) : Lib.decDigits u = decTxt u := by
  induction u using Nat.strongRecOn with
  | _ u ih =>
    rw [Lib.decDigits, decTxt]
    by_cases h : u < 10
    · rw [dif_pos h, if_pos (by omega)]
    · rw [dif_neg h, if_neg (by omega), ih (u / 10) (by omega)]
theorem itoa_same (x : Int) : Lib.itoa x = litT x := by
  unfold Lib.itoa litT decI
  split
  · rw [dec_same, show x.natAbs = (-x).toNat by omega]
  · rw [dec_same]
def Itoas (x : Int) (d : List UInt8) : Prop := ∀ w' : World, Tens w' → Calls Tryd.prog 12 #[.int .i64 x] w' fun e w'' => e = .returned (.string (bs d)) ∧ Below w'.heap.size w' w''
theorem itoa_any (x : Int) (h0 : -9223372036854775808 ≤ x) (h1 : x ≤ 9223372036854775807) : Itoas x (litT x) := fun w' ht => by
  refine (Tryd.strconv_Itoa x h0 h1 w' ht).mono ?_
  rintro e w'' ⟨rfl, k, os, rfl⟩
  exact ⟨by rw [itoa_same]; rfl, Lib.below_grow w'.heap.size w' (Nat.le_refl _) k os⟩
theorem litT_pos {x : Int} (h : 0 ≤ x) : litT x = decI x := by unfold litT; rw [if_neg (by omega)]
theorem itoa_of (x : Int) (h : -100000 ≤ x ∧ x ≤ 100000) : ∃ d, Hid (Itoas x d) ∧ Hid (d = litT x) ∧ d.length ≤ 11 :=
  ⟨litT x, itoa_any x (by omega) (by omega), rfl, litT_len h.1 h.2⟩
theorem itoa_nat (x : Int) (h0 : 0 ≤ x) (h1 : x < 4294967296) : ∃ d, Hid (Itoas x d) ∧ Hid (d = decI x) ∧ d.length ≤ 10 :=
  ⟨decI x, by have := itoa_any x (by omega) (by omega); rw [litT_pos h0] at this; exact this, rfl, decI_len h1⟩

set_option maxRecDepth 100000 in
set_option maxHeartbeats 8000000 in
theorem write_any (B : Nat) (w : World) (a : Option Addr) (c : Nat) (v : Int) (cls : List CL) (h : ClAt B w a cls) (hB : B ≤ w.heap.size) (hok : FmOk v cls = true) (hT : Tens w) (hG : Tryd.prog.globals.size ≤ w.heap.size) :
    Calls Tryd.prog 7 #[.agg #[.int .i64 v, .slice a cls.length c]] w fun e w' => e = .returned (.string (bs (fmT v cls))) ∧ Below w.heap.size w w' := by
  obtain ⟨⟨hv0, hv1⟩, hli⟩ := lits_of hok
  have HAT := hidden h
  have HLI := hidden hli
  have HTO : Hid (total cls ≤ 1048576) := h.tot
  have HTW := hidden hT
  have HGS := hidden hG
  have hlen : cls.length ≤ 1048576 := Nat.le_trans (total_len cls) h.tot
  obtain ⟨n, HNN⟩ : ∃ n, Hid (cls.length = n) := ⟨_, rfl⟩
  have hn : n ≤ 1048576 := by rw [← HNN.out]; exact hlen
  obtain ⟨d0, W0, D0, l0⟩ := itoa_nat v hv0 (by omega)
  obtain ⟨d1, W1, D1, l1⟩ := itoa_nat (n : Int) (by omega) (by omega)
  obtain ⟨z0, Hz0, Lz0, Az0⟩ := add_to ⟨#[112, 32, 99, 110, 102, 32]⟩ (bs d0) [112, 32, 99, 110, 102, 32] d0 rfl rfl (by simp; omega)
  obtain ⟨z1, Hz1, Lz1, Az1⟩ := add_to (bs z0) ⟨#[32]⟩ z0 [32] rfl rfl (by simp at *; omega)
  obtain ⟨z2, Hz2, Lz2, Az2⟩ := add_to (bs z1) (bs d1) z1 d1 rfl rfl (by simp at *; omega)
  obtain ⟨z3, Hz3, Lz3, Az3⟩ := add_to (bs z2) ⟨#[10]⟩ z2 [10] rfl rfl (by simp at *; omega)
  have HHT : Hid (z3 = headT v n) := by
    show _ = _
    unfold headT
    rw [Hz3.out, Hz2.out, Hz1.out, Hz0.out, D0.out, D1.out]
  have hz3 : z3.length ≤ 40 := by simp at *; omega
  have HFT : Hid (fmT v cls = z3 ++ clsT cls) := by show _ = _; unfold fmT; rw [HHT.out, HNN.out]
  rw [HFT.out]
  rw [HNN.out] at hlen ⊢
  clear Hz0 Hz1 Hz2 Hz3 Lz0 Lz1 Lz2 Lz3 D0 D1 HFT HHT h hok hli hT hG
  unfold Itoas at W0 W1
  go_enter Tryd.func7, Tryd.ntmps7
  go_upto_region 1 with fail
  generalize hW : World.alloc w _ = V
  obtain ⟨gx, hgx⟩ : ∃ x, x = w.heap.size := ⟨_, rfl⟩
  have HBW : Hid (Below w.heap.size w V) := by rw [← hW]; exact (Below.refl _ _).alloc (Nat.le_refl _) _
  have HG : Hid (∀ j, V.cell? ⟨gx, j, none⟩ = (#[.int .i64 v, .slice a n c] : Array Value)[j]?) := by
    rw [← hW, hgx]; intro j; exact cell_new rfl
  have hgl : gx < V.heap.size := by rw [← hW, hgx]; simp
  have HATW : Hid (ClAt V.heap.size V a cls) := by
    rw [← hW]
    exact (HAT.out.to (((Below.refl _ _).alloc (Nat.le_refl _) _).mono hB)).mono (by simp; omega)
  rw [← hgx]
  clear hW hgx HAT
  have q0 := HG.out 0
  have q1 := HG.out 1
  simp at q0 q1
  obtain ⟨B0, hB0'⟩ : ∃ x, x = V.heap.size := ⟨_, rfl⟩
  have hB0 : B0 ≤ V.heap.size := by omega
  have hwB : w.heap.size ≤ B0 := by have := HBW.out.size; omega
  have K2 : Hid (∀ w', Below B0 V w' → w'.cell? ⟨gx, 0, none⟩ = some (.int .i64 v) ∧ w'.cell? ⟨gx, 1, none⟩ = some (.slice a n c)) := fun w' hb => ⟨(hb.cell (p := ⟨gx, 0, none⟩) (by show gx < B0; omega)).trans q0, (hb.cell (p := ⟨gx, 1, none⟩) (by show gx < B0; omega)).trans q1⟩
  have TN : Hid (∀ w', Below B0 V w' → Tens w') := fun w' hb => HTW.out.to (HBW.out.trans (hb.mono hwB)) HGS.out
  have HATB : Hid (ClAt B0 V a cls) := by rw [hB0']; exact HATW.out
  go_upto_region 2 with fail
  clear q0 q1 HG HTW HATW
  have hFB := Lib.fresh_isBuilder 33 5 V
  generalize hW : World.alloc V _ = W at hFB ⊢
  obtain ⟨bx, hbx⟩ : ∃ x, x = V.heap.size := ⟨_, rfl⟩
  have HAW : Hid (BAt B0 bx [] W) := by show Lib.IsBuilder _ _ _ _ _ _; rw [hB0', hbx]; exact hFB
  have hbW : Below B0 V W := by rw [← hW]; exact (Below.refl _ _).alloc hB0 _
  have hBW : B0 ≤ W.heap.size := Nat.le_trans hB0 hbW.size
  rw [← hbx]
  clear hW hbx hFB hB0'
  (
  refine wp_region_noPanic ?_
  refine wp_region_held_drew (S := (fun w' => w'.cell? ⟨gx, 0, none⟩ = some (.int .i64 v) ∧ w'.cell? ⟨gx, 1, none⟩ = some (.slice a n c))) (by kernel_rfl) (by first | assumption | exact K2.out _ (by assumption) | exact K2.out _ (Below.drew (by assumption))) (fun hHeld => ?_)
  refine wpAnyH_take (i := 0) (oi := _) (v := ?_) rfl (by kernel_rfl) (by kernel_rfl) (by kernel_rfl) (fun _ _ _ h => h) (Or.inl ⟨by rfl, ?_⟩) (by assumption) ?_
  rotate_left
  · (intro w0 hSw; (try dsimp only at hSw); (try simp only [List.getElem_toArray, List.getElem_cons_zero]); go_simp; try (with_reducible rfl))
  try simp only [Act.put, List.getElem_toArray, List.getElem_cons_zero, List.setIfInBounds_toArray, List.set_cons_zero, List.set_cons_succ]
  refine wpAnyH_take (i := 1) (oi := _) (v := ?_) rfl (by kernel_rfl) (by kernel_rfl) (by kernel_rfl) (fun _ _ _ h => h) (Or.inl ⟨by rfl, ?_⟩) (by assumption) ?_
  rotate_left
  · (intro w0 hSw; (try dsimp only at hSw); (try simp only [List.getElem_toArray, List.getElem_cons_zero, List.getElem_cons_succ]); go_simp; try (with_reducible rfl))
  try simp only [Act.put, List.getElem_toArray, List.getElem_cons_zero, List.getElem_cons_succ, List.setIfInBounds_toArray, List.set_cons_zero, List.set_cons_succ]
  refine wpAnyH_take (i := 5) (oi := _) (v := ?_) rfl (by kernel_rfl) (by kernel_rfl) (by kernel_rfl) (fun _ _ _ h => h) (Or.inl ⟨by rfl, ?_⟩) (by assumption) ?_
  rotate_left
  · (intro w0 hSw; (try dsimp only at hSw); (try simp only [List.getElem_toArray, List.getElem_cons_zero, List.getElem_cons_succ]); go_simp; try (with_reducible rfl))
  try simp only [Act.put, List.getElem_toArray, List.getElem_cons_zero, List.getElem_cons_succ, List.setIfInBounds_toArray, List.set_cons_zero, List.set_cons_succ]
  refine wpAnyH_take (i := 6) (oi := _) (v := ?_) rfl (by kernel_rfl) (by kernel_rfl) (by kernel_rfl) (fun _ _ _ h => h) (Or.inl ⟨by rfl, ?_⟩) (by assumption) ?_
  rotate_left
  · (intro w0 hSw; (try dsimp only at hSw); (try simp only [List.getElem_toArray, List.getElem_cons_zero, List.getElem_cons_succ]); go_simp; try (with_reducible rfl))
  try simp only [Act.put, List.getElem_toArray, List.getElem_cons_zero, List.getElem_cons_succ, List.setIfInBounds_toArray, List.set_cons_zero, List.set_cons_succ]
  refine wpAnyH_take (i := 7) (oi := _) (v := ?_) rfl (by kernel_rfl) (by kernel_rfl) (by kernel_rfl) (fun _ _ _ h => h) (Or.inl ⟨by rfl, ?_⟩) (by assumption) ?_
  rotate_left
  · (intro w0 hSw; (try dsimp only at hSw); (try simp only [List.getElem_toArray, List.getElem_cons_zero, List.getElem_cons_succ]); go_simp; try (with_reducible rfl))
  try simp only [Act.put, List.getElem_toArray, List.getElem_cons_zero, List.getElem_cons_succ, List.setIfInBounds_toArray, List.set_cons_zero, List.set_cons_succ]
  refine wpAnyH_ready (rs := [2]) (by kernel_rfl) (by simp) ?_
  refine AllReadyH.cons (o := _) rfl (fun K hK => ?_) AllReadyH.nil
  (try simp only [List.getElem_toArray, List.getElem_cons_zero, List.getElem_cons_succ])
  go_simp
  go_at_call 12
  refine (W0.out _ (TN.out _ (Below.drew hbW))).mono ?_
  rintro e x1 ⟨rfl, hb1⟩
  have HA1 := hidden (bat_to HAW.out ((Below.drew (Below.refl W.heap.size W)).trans hb1))
  replace hb1 : Below B0 V x1 := hbW.trans (((Below.drew (Below.refl W.heap.size W)).trans hb1).mono hBW)
  go_wp2_with fail
  refine hK.out _ _ (by first | assumption | exact K2.out _ (by assumption) | exact K2.out _ (Below.drew (by assumption))) (fun hHeld1 => ?_)
  clear hK K
  try simp only [Act.put, List.setIfInBounds_toArray, List.set_cons_zero, List.set_cons_succ]
  refine wpAnyH_take (i := 3) (oi := _) (v := ?_) rfl (by kernel_rfl) (by kernel_rfl) (by kernel_rfl) (fun _ _ _ h => h) (Or.inl ⟨by rfl, ?_⟩) (by assumption) ?_
  rotate_left
  · (intro w0 hSw; (try dsimp only at hSw); (try simp only [List.getElem_toArray, List.getElem_cons_zero, List.getElem_cons_succ]); go_simp; try (with_reducible rfl))
  try simp only [Act.put, List.getElem_toArray, List.getElem_cons_zero, List.getElem_cons_succ, List.setIfInBounds_toArray, List.set_cons_zero, List.set_cons_succ]
  refine wpAnyH_take (i := 4) (oi := _) (v := ?_) rfl (by kernel_rfl) (by kernel_rfl) (by kernel_rfl) (fun _ _ _ h => h) (Or.inl ⟨by rfl, ?_⟩) (by assumption) ?_
  rotate_left
  · (intro w0 hSw; (try dsimp only at hSw); (try simp only [List.getElem_toArray, List.getElem_cons_zero, List.getElem_cons_succ]); go_simp; try (with_reducible rfl))
  try simp only [Act.put, List.getElem_toArray, List.getElem_cons_zero, List.getElem_cons_succ, List.setIfInBounds_toArray, List.set_cons_zero, List.set_cons_succ]
  refine wpAnyH_ready (rs := [8]) (by kernel_rfl) (by simp) ?_
  refine AllReadyH.cons (o := _) rfl (fun K hK => ?_) AllReadyH.nil
  (try simp only [List.getElem_toArray, List.getElem_cons_zero, List.getElem_cons_succ])
  go_simp
  go_at_call 12
  refine (W1.out _ (TN.out _ hb1)).mono ?_
  rintro e x2 ⟨rfl, hb2⟩
  have HA2 := hidden (bat_to HA1.out hb2)
  replace hb2 : Below B0 V x2 := hb1.trans (hb2.mono (Nat.le_trans hB0 hb1.size))
  go_wp2_with fail
  refine hK.out _ _ (by first | assumption | exact K2.out _ (by assumption) | exact K2.out _ (Below.drew (by assumption))) (fun hHeld2 => ?_)
  clear hK K
  try simp only [Act.put, List.setIfInBounds_toArray, List.set_cons_zero, List.set_cons_succ]
  refine wpAnyH_take (i := 9) (oi := _) (v := ?_) rfl (by kernel_rfl) (by kernel_rfl) (by kernel_rfl) (fun _ _ _ h => h) (Or.inl ⟨by rfl, ?_⟩) (by assumption) ?_
  rotate_left
  · (intro w0 hSw; (try dsimp only at hSw); (try simp only [List.getElem_toArray, List.getElem_cons_zero, List.getElem_cons_succ]); go_simp; try (with_reducible rfl))
  try simp only [Act.put, List.getElem_toArray, List.getElem_cons_zero, List.getElem_cons_succ, List.setIfInBounds_toArray, List.set_cons_zero, List.set_cons_succ]
  refine wpAnyH_take (i := 10) (oi := _) (v := ?_) rfl (by kernel_rfl) (by kernel_rfl) (by kernel_rfl) (fun _ _ _ h => h) (Or.inl ⟨by rfl, ?_⟩) (by assumption) ?_
  rotate_left
  · (intro w0 hSw; (try dsimp only at hSw); (try simp only [List.getElem_toArray, List.getElem_cons_zero, List.getElem_cons_succ]); go_simp; try (with_reducible rfl))
  try simp only [Act.put, List.getElem_toArray, List.getElem_cons_zero, List.getElem_cons_succ, List.setIfInBounds_toArray, List.set_cons_zero, List.set_cons_succ]
  refine wpAnyH_ready (rs := [11]) (by kernel_rfl) (by simp) ?_
  refine AllReadyH.cons (o := _) rfl (fun K hK => ?_) AllReadyH.nil
  (try simp only [List.getElem_toArray, List.getElem_cons_zero, List.getElem_cons_succ])
  go_simp
  go_at_call 11
  refine (writeS_any HA2.out z3 (Nat.le_trans hB0 hb2.size) (by simp; omega)).mono ?_
  rintro e x3 ⟨⟨rx, ry, rfl⟩, ha3, hb3⟩
  have HA3 := hidden ha3
  clear ha3
  replace hb3 : Below B0 V x3 := hb2.trans hb3
  go_wp2_with fail
  refine hK.out _ _ (by first | assumption | exact K2.out _ (by assumption) | exact K2.out _ (Below.drew (by assumption))) (fun hHeld3 => ?_)
  clear hK K
  try simp only [Act.put, List.setIfInBounds_toArray, List.set_cons_zero, List.set_cons_succ]
  refine wpAnyH_done (by kernel_rfl) ?_ _
  refine NoPanic.normal ?_
  )
  have HB3 := hidden hb3
  have HA3' : Hid (BAt B0 bx z3 x3) := by have := HA3.out; rwa [List.nil_append] at this
  clear hb1 hb2 hb3 W0 W1 Az0 Az1 Az2 Az3 HA1 HA2 HA3 HAW hbW
  try clear hHeld
  try clear hHeld1
  try clear hHeld2
  try clear hHeld3
  obtain ⟨q0, q1⟩ := K2.out _ HB3.out
  go_wp2_with fail
  clear q0 q1
  go_loopw [23] (fun i' w' => ∃ (k : Nat) (s : List UInt8), k ≤ n ∧ i' = .int .i64 k ∧ s.length ≤ 40 + 12 * total (cls.take k) ∧ Hid (s = z3 ++ clsT (cls.take k)) ∧ Hid (BAt B0 bx s w') ∧ Hid (Below B0 V w')) (fun i' _ => n - (intOf i').toNat)
  case atStart => exact ⟨0, z3, Nat.zero_le _, rfl, by omega, by simp [Hid, clsT], HA3'.out, HB3.out⟩
  case round =>
    obtain ⟨k, s, hk, rfl, hsl, HSS, HAr, HBr⟩ := hrel
    clear HB3 HA3'
    by_cases hlt : k < n
    · obtain ⟨t, hz⟩ := getElem_lt (show k < cls.length by rw [HNN.out]; exact hlt)
      obtain ⟨tb, tz, ea, htb, htc⟩ := HATB.out.row.el hz
      subst ea
      have htm := List.mem_of_getElem? hz
      have HLT := hidden (HLI.out t htm)
      have htk := total_take cls k t hz
      have htk2 := total_le cls (k + 1)
      have HCN := hidden (clsT_next cls k t hz)
      have hto := HTO.out
      have hs1 : s.length + 12 * t.l.length + 2 ≤ 40 + 12 * total (cls.take (k + 1)) := by omega
      have hs2 : s.length ≤ 20000000 := by omega
      have htl : t.l.length ≤ 1048576 := by omega
      have HTR : Hid (RowAt B0 V t.a 1 (t.l.map intC)) := HATB.out.each t htm
      have c0 : wr.cell? ⟨tb, tz + k, none⟩ = some (.slice t.a t.l.length t.c) := (HBr.out.cell (p := ⟨tb, tz + k, none⟩) htb).trans (by have := htc 0 _ rfl; simpa using this)
      have hltI : (k : Int) < (n : Int) := by omega
      have e3 : IntKind.i64.wrap ((k : Int) + 1) = (k : Int) + 1 := wrapI _ (by omega) (by omega)
      unfold Lits at HLT
      have HS1 := hidden hs1
      clear hz htc htm htk htk2 hto hsl hs1
      obtain ⟨tl, HTL⟩ : ∃ l, Hid (t.l.length = l) := ⟨_, rfl⟩
      rw [HTL.out] at c0 htl HS1
      generalize t.a = tA at *
      generalize t.c = tC at *
      go_wp2_with fail
      clear c0
      go_loopw [29] (fun j' w' => ∃ (j : Nat) (s2 : List UInt8), j ≤ tl ∧ j' = .int .i64 j ∧ s2.length ≤ s.length + 12 * j ∧ Hid (s2 = s ++ clP (t.l.take j)) ∧ Hid (BAt B0 bx s2 w') ∧ Hid (Below B0 V w')) (fun j' _ => tl - (intOf j').toNat)
      case atStart => exact ⟨0, s, Nat.zero_le _, rfl, by omega, by simp [Hid, clP], HAr.out, HBr.out⟩
      case round =>
        obtain ⟨j, s2, hj, rfl, hs2l, HS2, HAq, HBq⟩ := hrel
        have hszq : B0 ≤ wr.heap.size := Nat.le_trans hB0 HBq.out.size
        by_cases hjt : j < tl
        · obtain ⟨x, hx⟩ := getElem_lt (show j < t.l.length by rw [HTL.out]; exact hjt)
          obtain ⟨rb, ro, era, hrb, hcx⟩ := HTR.out.intR hx
          subst era
          have cx := (HBq.out.cell (p := ⟨rb, ro + j, none⟩) hrb).trans hcx
          obtain ⟨d, LI, DL, dl⟩ := itoa_of x (HLT.out j x hx)
          have HPN := hidden (clP_next t.l j x hx)
          have HY : Hid (s2 ++ d ++ [32] = s ++ clP (t.l.take (j + 1))) := by
            show _ = _
            rw [HS2.out, HPN.out, DL.out]; simp
          have hy : (s2 ++ d ++ [32]).length ≤ s.length + 12 * (j + 1) := by simp; omega
          have hjI : (j : Int) < (tl : Int) := by omega
          have ej : IntKind.i64.wrap ((j : Int) + 1) = (j : Int) + 1 := wrapI _ (by omega) (by omega)
          have hl2 : s2.length + d.length + 1 ≤ 140737488355328 := by omega
          unfold Itoas at LI
          clear hx hcx HPN DL HS2
          go_wp2_with fail
          go_at_call 12
          refine (LI.out _ (TN.out _ HBq.out)).mono ?_
          rintro e x4 ⟨rfl, hb4⟩
          have HA4 := hidden (bat_to HAq.out hb4)
          have HB4 : Hid (Below B0 V x4) := HBq.out.trans (hb4.mono hszq)
          clear hb4 cx LI
          go_wp2_with fail
          go_at_call 11
          refine (writeS_any HA4.out d (Nat.le_trans hB0 HB4.out.size) (by omega)).mono ?_
          rintro e x5 ⟨⟨rx5, ry5, rfl⟩, ha5, hb5⟩
          have HA5 := hidden ha5
          have HB5 : Hid (Below B0 V x5) := HB4.out.trans hb5
          clear ha5 hb5 HA4 HB4
          go_wp2_with fail
          go_at_call 13
          refine (writeB_any HA5.out (Nat.le_trans hB0 HB5.out.size) (by simp; omega)).mono ?_
          rintro e x6 ⟨rfl, ha6, hb6⟩
          have HA6 := hidden ha6
          have HB6 : Hid (Below B0 V x6) := HB5.out.trans hb6
          clear ha6 hb6 HA5 HB5
          go_wp2
          go_roundw
          case measure => simp [intOf]; omega
          case rel => exact ⟨j + 1, _, by omega, by simp, hy, HY.out, HA6.out, HB6.out⟩
        · have hge : ¬ ((j : Int) < (tl : Int)) := by omega
          have HY : Hid (s2 ++ [48, 10] = z3 ++ clsT (cls.take (k + 1))) := by
            show _ = _
            have h2 := HS2.out
            rw [List.take_of_length_le (by have := HTL.out; omega)] at h2
            rw [h2, HSS.out, HCN.out]; simp
          have hy : (s2 ++ [48, 10]).length ≤ 40 + 12 * total (cls.take (k + 1)) := by have := HS1.out; simp; omega
          have WS : Hid (Calls Tryd.prog 11 #[.pointer (some ⟨bx, 0, none⟩), .string ⟨#[48, 10]⟩] wr fun e w' => (∃ x y, e = .returned (.tuple #[x, y])) ∧ BAt B0 bx (s2 ++ [48, 10]) w' ∧ Below B0 wr w') := writeS_any HAq.out [48, 10] hszq (by simp; omega)
          clear HS2 HS1 HAq
          go_wp2_with fail
          go_at_call 11
          refine WS.out.mono ?_
          rintro e x7 ⟨⟨rx7, ry7, rfl⟩, ha7, hb7⟩
          have HA7 := hidden ha7
          have HB7 : Hid (Below B0 V x7) := HBq.out.trans hb7
          clear ha7 hb7 WS
          go_wp2
          go_roundw
          case measure => simp [intOf]; omega
          case rel => exact ⟨k + 1, _, by omega, by simp, hy, HY.out, HA7.out, HB7.out⟩
    · have hge : ¬ ((k : Int) < (n : Int)) := by omega
      have HF : Hid (s = z3 ++ clsT cls) := by
        have := HSS.out
        rwa [List.take_of_length_le (by have := HNN.out; omega)] at this
      have SS := hidden (Tryd.Builder_String_any B0 bx s wr HAr.out (Nat.le_trans hB0 HBr.out.size))
      clear HSS HAr
      go_wp2_with fail
      go_at_call 14
      refine SS.out.mono ?_
      rintro e x8 ⟨rfl, hb8⟩
      have HB8 : Hid (Below B0 V x8) := HBr.out.trans hb8
      clear hb8 SS
      go_wp2
      go_ret
      refine ⟨?_, HBW.out.trans (HB8.out.mono hwB)⟩
      rw [← HF.out]; rfl

theorem print_any (B : Nat) (w : World) (a : Option Addr) (c : Nat) (v : Int) (cls : List CL) (h : ClAt B w a cls) (hB : B ≤ w.heap.size) (hok : FmOk v cls = true) (hT : Tens w) (hG : Tryd.prog.globals.size ≤ w.heap.size) :
    Calls Tryd.prog 4 #[.agg #[.int .i64 v, .slice a cls.length c]] w fun e w' => e = .returned (.string (bs (fmT v cls))) ∧ Below w.heap.size w w' := by
  have WR : Hid (∀ w', Below w.heap.size w w' → Calls Tryd.prog 7 #[.agg #[.int .i64 v, .slice a cls.length c]] w' fun e w'' => e = .returned (.string (bs (fmT v cls))) ∧ Below w'.heap.size w' w'') := fun w' hw' =>
    write_any B w' a c v cls (h.to (hw'.mono hB)) (Nat.le_trans hB hw'.size) hok (hT.to hw' hG) (Nat.le_trans hG hw'.size)
  clear h hok hT hG
  generalize fmT v cls = ft at *
  generalize cls.length = n at *
  go_enter Tryd.func4, Tryd.ntmps4
  go_upto_region 1 with fail
  generalize hW : World.alloc w _ = V
  obtain ⟨gx, hgx⟩ : ∃ x, x = w.heap.size := ⟨_, rfl⟩
  have HBW : Hid (Below w.heap.size w V) := by rw [← hW]; exact (Below.refl _ _).alloc (Nat.le_refl _) _
  have HG : Hid (∀ j, V.cell? ⟨gx, j, none⟩ = (#[.int .i64 v, .slice a n c] : Array Value)[j]?) := by
    rw [← hW, hgx]; intro j; exact cell_new rfl
  rw [← hgx]
  clear hW hgx
  have q0 := HG.out 0
  have q1 := HG.out 1
  simp at q0 q1
  go_wp2_with fail
  go_at_call 7
  refine (WR.out _ HBW.out).mono ?_
  rintro e x1 ⟨rfl, hb1⟩
  have HB1 : Hid (Below w.heap.size w x1) := HBW.out.trans (hb1.mono HBW.out.size)
  clear hb1 WR q0 q1
  go_wp2
  go_ret
  exact ⟨rfl, HB1.out⟩

end Go.Proofs.YtiillkhhnajmdaaDoor
