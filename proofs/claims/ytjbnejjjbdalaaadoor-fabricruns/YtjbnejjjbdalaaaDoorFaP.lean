import Derived.Test.YtjbnejjjbdalaaaDoorFaO
namespace Go.Proofs.YtjbnejjjbdalaaaDoor
open Go.RowKit

/-! What bits tell, whole (pure) -/
def k0S (nm : Nat → Nat → Nat) : Nat := wid (2 + nm 0 16 + nm 32 16)
def k1S (nm : Nat → Nat → Nat) : Nat := wid (2 + nm 48 16)
def regPS (nm : Nat → Nat → Nat) : Nat := posC (nm 48 16) (k0S nm) (k1S nm) (nm 64 16)
def outPS (nm : Nat → Nat → Nat) : Nat := regPS nm + nm 32 16 * (1 + k1S nm)
def endPS (nm : Nat → Nat → Nat) : Nat := outPS nm + nm 16 16 * k1S nm
def colsS (nm : Nat → Nat → Nat) : List (List CeD) := (List.range (nm 64 16)).map (colF nm (nm 48 16) (k0S nm) (k1S nm))
def regsS (nm : Nat → Nat → Nat) : List RgD := (List.range (nm 32 16)).map (regF nm (regPS nm) (k1S nm))
def outsS (nm : Nat → Nat → Nat) : List Int := (List.range (nm 16 16)).map (outF nm (outPS nm) (k1S nm))
def selsOk (nm : Nat → Nat → Nat) : Bool := ((List.range (nm 64 16)).all fun i => (colF nm (nm 48 16) (k0S nm) (k1S nm) i).all (CeD.ok ((shS nm).src i))) && (regsS nm).all (RgD.ok (2 + nm 48 16 : Nat)) && (outsS nm).all (inR (2 + nm 48 16 : Nat))
/-- a configuration is what the bits tell -/
structure SpecN (nm : Nat → Nat → Nat) (N : CnD) : Prop where
  sh : N.sh = shS nm
  cols : N.cols.map ClD.cs = colsS nm
  regs : N.regs = regsS nm
  outs : N.outs = outsS nm
/-- bytes that are a configuration's -/
def gOk (bs : List Nat) : Bool := headOk bs && (shS (numN (bitL bs))).ok && !endBad (bitL bs) (endPS (numN (bitL bs))) (!selsOk (numN (bitL bs)))
theorem But.drew {g : Nat} {a w : World} (h : But g a w) : But g a w.drew := ⟨h.os, h.tape, h.output, h.size, h.block⟩
theorem Blk.drew {w : World} {b : Nat} {t : TypeId} {arr : Array Value} (h : Blk w b t arr) : Blk w.drew b t arr := h
theorem own_val {w : World} {B n sz : Nat} {e : TypeId} {v : Value} {xs : List Value} (h : w.ownsRow B e sz v n xs) : ∃ a m c, v = .slice a m c := by
  rcases h.2 with ⟨rfl, _⟩ | ⟨g, cap, cur, rfl, _⟩
  · exact ⟨_, _, _, rfl⟩
  · exact ⟨_, _, _, rfl⟩
theorem posC_ge (nw k0 k1 i : Nat) : 80 ≤ posC nw k0 k1 i := by
  induction i with
  | zero => exact Nat.le_refl _
  | succ i ih => exact Nat.le_trans ih (Nat.le_add_right _ _)
theorem endPS_ge (nm : Nat → Nat → Nat) : 80 ≤ endPS nm := by
  have := posC_ge (nm 48 16) (k0S nm) (k1S nm) (nm 64 16)
  unfold endPS outPS regPS
  omega
def LoadP (w' : World) (cs : Array Value) (g : Bool) (bt : List Nat) : Prop := (∃ (s : ShD) (p1 : Option Addr) (m1 d1 : Nat) (p2 : Option Addr) (m2 d2 : Nat) (p3 : Option Addr) (m3 d3 : Nat), cs = cfA s (.slice p1 m1 d1) (.slice p2 m2 d2) (.slice p3 m3 d3)) ∧ (g = true → ∃ S N, cs = CnS.cells S N ∧ SpecN (numN bt) N ∧ CnAt w'.heap.size w' S N)
def LoadE (e : Ending) (w' : World) (g : Bool) (bt : List Nat) : Prop := ∃ cs, e = .returned (.tuple #[.agg cs, .bool g]) ∧ LoadP w' cs g bt
theorem ldQ_new (a : Option Addr) (bt : List Nat) (c : Nat) : ldQ a bt c 0 false = #[.slice a bt.length c, .int .i64 0, .bool false] := by
  unfold ldQ ldA; simp

set_option maxRecDepth 100000 in
set_option maxHeartbeats 16000000 in
theorem loaded_go (B : Nat) (w : World) (hBw : B ≤ w.heap.size) (a : Option Addr) (c : Nat) (bs : List Nat) (R : RowAt B w a 1 (bs.map byteC)) (hl : bs.length < 281474976710656) (hby : ∀ x, x ∈ bs → x < 256) (hc : bs.length ≤ c) (hh : headOk bs = true) :
    Calls Tryd.prog 16 #[.slice a bs.length c] w fun e w' => LoadE e w' (gOk bs) (bitL bs) ∧ Below w.heap.size w w' := by
  have hh' := hh
  unfold headOk at hh'
  simp only [Bool.and_eq_true, decide_eq_true_eq] at hh'
  obtain ⟨⟨h8, hmk⟩, hsum⟩ := hh'
  obtain ⟨ab, ao, ea, hlb, -⟩ := R (by intro e; rw [List.map_eq_nil_iff.1 e] at h8; simp at h8)
  subst ea
  obtain ⟨n, hn⟩ : ∃ n, bs.length = n + 4 := ⟨bs.length - 4, by omega⟩
  have hn4 : bs.length - 4 = n := by omega
  have h4n : 4 ≤ n := by omega
  have e1 : IntKind.i64.wrap (n : Int) = (n : Int) := wrapI _ (by omega) (by omega)
  have l2 : decide ((n : Int) < 4) = false := decide_eq_false (by omega)
  have HA : Hid (Below w.heap.size w (w.alloc (.cells #[.int .i64 0, .int .i64 0, .int .i64 0, .int .i64 0, .int .i64 0, .slice none 0 0, .slice none 0 0, .slice none 0 0] 32))) := (Below.refl _ _).alloc (Nat.le_refl _) _
  have KV : Hid (∀ v, Below w.heap.size w v → (fun w' => (convert 22 9 (.slice (some ⟨ab, ao, none⟩) 4 c)).run Tryd.prog w' = .ok (.string (strB (bs.take 4))) w') v) := fun v hv => by
    have := conv_bytes ((R.to (hv.mono hBw)).take 4) (fun x hx => hby x (List.mem_of_mem_take hx)) c
    rw [List.length_take, show min 4 bs.length = 4 by omega] at this
    exact this
  have htk : ∀ x, x ∈ bs.take 4 → x < 256 := fun x hx => hby x (List.mem_of_mem_take hx)
  obtain ⟨y0, y1, y2, y3, hy⟩ := four_of (l := lastL bs) (by unfold lastL; rw [List.length_drop]; omega)
  have hyb : ∀ y, y ∈ [y0, y1, y2, y3] → y < 256 := fun y h => by rw [← hy] at h; exact hby y (List.mem_of_mem_drop h)
  have b0 := hyb y0 (by simp)
  have b1 := hyb y1 (by simp)
  have b2 := hyb y2 (by simp)
  have b3 := hyb y3 (by simp)
  have hbod : (bodyL bs).length = n := by unfold bodyL; rw [List.length_take, hn4]; omega
  have hlt : crcV (bodyL bs) < 4294967296 := xor_lt (crcL_lt (fun x hx => hby x (List.mem_of_mem_take hx))) (by decide)
  have hs : decide (crcV (bodyL bs) = tellB y0 y1 y2 y3) = true := decide_eq_true ((tell_sum _ _ _ _ _ hlt b0 b1 b2 b3).2 (by rw [hsum, hy]))
  have HIS : Hid (∀ v, Below w.heap.size w v → Calls Tryd.prog 28 #[.slice (some ⟨ab, ao + n, none⟩) 4 (c - n), .slice (some ⟨ab, ao, none⟩) n c] v fun e w' => e = .returned (.bool true) ∧ ∃ n, w' = v.drewN n) := fun v hv => by
    have r1 : RowAt B v (some ⟨ab, ao + n, none⟩) 1 ([y0, y1, y2, y3].map byteC) := by rw [← hy, lastL, hn4]; exact (R.to (hv.mono hBw)).drop n
    have r2 : RowAt B v (some ⟨ab, ao, none⟩) 1 ((bodyL bs).map byteC) := (R.to (hv.mono hBw)).take _
    have := isSum_any B v _ _ (c - n) c y0 y1 y2 y3 (bodyL bs) r1 r2 (by omega) (fun x hx => hby x (List.mem_of_mem_take hx)) b0 b1 b2 b3
    rw [hbod, hs] at this
    exact this
  have hmk2 : ((strB (bs.take 4)).toList == [71, 87, 66, 49]) = true := by rw [str_mark _ htk, decide_eq_true hmk]
  obtain ⟨bt, HBT⟩ : ∃ l, Hid (bitL bs = l) := ⟨_, rfl⟩
  have HRB : Hid (∀ v, Below w.heap.size w v → RowAt B v (some ⟨ab, ao + 4, none⟩) 1 (bt.map byteC)) := fun v hv => by
    rw [← HBT.out]
    exact (RowAt.take (R.to (hv.mono hBw)) (bs.length - 4)).drop 4
  have HBY : Hid (∀ x, x ∈ bt → x < 256) := fun x hx => by rw [← HBT.out] at hx; exact hby x (List.mem_of_mem_take (List.mem_of_mem_drop hx))
  have HBL : Hid (bt.length = n - 4) := by show _ = _; rw [← HBT.out, bitL, List.length_drop, hbod]
  obtain ⟨g, HG⟩ : ∃ g, Hid (gOk bs = g) := ⟨_, rfl⟩
  have HGD : Hid (g = ((shS (numN bt)).ok && !endBad bt (endPS (numN bt)) (!selsOk (numN bt)))) := by show _ = _; rw [← HG.out, gOk, hh, HBT.out, Bool.true_and]
  rw [HG.out, HBT.out]
  generalize strB (bs.take 4) = sm at *
  rw [hn] at hc hl ⊢
  have hcn : ¬ (c = n) := by omega
  have hc4 : ¬ (c = 4) := by omega
  have hcI : (n : Int) + 4 ≤ (c : Int) := by omega
  have h4c : (4 : Int) ≤ (c : Int) := by omega
  have h4nI : (4 : Int) ≤ (n : Int) := by omega
  have hnc : (n : Int) ≤ (c : Int) := by omega
  have hnn : (n : Int) ≤ (n : Int) + 4 := by omega
  have HC := hidden hc
  clear R hby hh h8 hmk hs hyb hy hbod hlt htk hn hlb hn4 hc b0 b1 b2 b3 hsum
  go_enter Tryd.func16, Tryd.ntmps16
  go_upto_region 2 with fail
  refine wp_region_noPanic ?_
  refine wp_region_held_drew (S := (fun w' => (convert 22 9 (.slice (some ⟨ab, ao, none⟩) 4 c)).run Tryd.prog w' = .ok (.string sm) w')) (by kernel_rfl) (by first | assumption | exact KV.out _ (Below.drew (HA.out)) | exact KV.out _ HA.out | exact KV.out _ (Below.drewN HA.out _) | exact KV.out _ (Below.drewN (Below.drew HA.out) _)) (fun hHeld => ?_)
  refine wpAnyH_take (i := 0) (oi := _) (v := ?_) rfl (by kernel_rfl) (by kernel_rfl) (by kernel_rfl) (fun _ _ _ h => h) (Or.inl ⟨by rfl, ?_⟩) (by assumption) ?_
  rotate_left
  · (intro w0 hSw; (try dsimp only at hSw); (try simp only [List.getElem_toArray, List.getElem_cons_zero]); go_simp; try (with_reducible rfl))
  try simp only [Act.put, List.getElem_toArray, List.getElem_cons_zero, List.setIfInBounds_toArray, List.set_cons_zero, List.set_cons_succ]
  refine wpAnyH_take (i := 1) (oi := _) (v := ?_) rfl (by kernel_rfl) (by kernel_rfl) (by kernel_rfl) (fun _ _ _ h => h) (Or.inl ⟨by rfl, ?_⟩) (by assumption) ?_
  rotate_left
  · (intro w0 hSw; (try dsimp only at hSw); (try simp only [List.getElem_toArray, List.getElem_cons_zero, List.getElem_cons_succ]); go_simp; try (with_reducible rfl))
  try simp only [Act.put, List.getElem_toArray, List.getElem_cons_zero, List.getElem_cons_succ, List.setIfInBounds_toArray, List.set_cons_zero, List.set_cons_succ]
  refine wpAnyH_take (i := 2) (oi := _) (v := ?_) rfl (by kernel_rfl) (by kernel_rfl) (by kernel_rfl) (fun _ _ _ h => h) (Or.inl ⟨by rfl, ?_⟩) (by assumption) ?_
  rotate_left
  · (intro w0 hSw; (try dsimp only at hSw); (try simp only [List.getElem_toArray, List.getElem_cons_zero, List.getElem_cons_succ]); go_simp; try (with_reducible rfl))
  try simp only [Act.put, List.getElem_toArray, List.getElem_cons_zero, List.getElem_cons_succ, List.setIfInBounds_toArray, List.set_cons_zero, List.set_cons_succ]
  refine wpAnyH_take (i := 3) (oi := _) (v := ?_) rfl (by kernel_rfl) (by kernel_rfl) (by kernel_rfl) (fun _ _ _ h => h) (Or.inl ⟨by rfl, ?_⟩) (by assumption) ?_
  rotate_left
  · (intro w0 hSw; (try dsimp only at hSw); (try simp only [List.getElem_toArray, List.getElem_cons_zero, List.getElem_cons_succ]); go_simp; try (with_reducible rfl))
  try simp only [Act.put, List.getElem_toArray, List.getElem_cons_zero, List.getElem_cons_succ, List.setIfInBounds_toArray, List.set_cons_zero, List.set_cons_succ]
  refine wpAnyH_take (i := 4) (oi := _) (v := ?_) rfl (by kernel_rfl) (by kernel_rfl) (by kernel_rfl) (fun _ _ _ h => h) (Or.inl ⟨by rfl, ?_⟩) (by assumption) ?_
  rotate_left
  · (intro w0 hSw; (try dsimp only at hSw); (try simp only [List.getElem_toArray, List.getElem_cons_zero, List.getElem_cons_succ]); go_simp; try (with_reducible rfl))
  try simp only [Act.put, List.getElem_toArray, List.getElem_cons_zero, List.getElem_cons_succ, List.setIfInBounds_toArray, List.set_cons_zero, List.set_cons_succ]
  refine wpAnyH_take (i := 5) (oi := _) (v := ?_) rfl (by kernel_rfl) (by kernel_rfl) (by kernel_rfl) (fun _ _ _ h => h) (Or.inl ⟨by rfl, ?_⟩) (by assumption) ?_
  rotate_left
  · (intro w0 hSw; (try dsimp only at hSw); (try simp only [List.getElem_toArray, List.getElem_cons_zero, List.getElem_cons_succ]); go_simp; try (with_reducible rfl))
  try simp only [Act.put, List.getElem_toArray, List.getElem_cons_zero, List.getElem_cons_succ, List.setIfInBounds_toArray, List.set_cons_zero, List.set_cons_succ]
  refine wpAnyH_take (i := 6) (oi := _) (v := ?_) rfl (by kernel_rfl) (by kernel_rfl) (by kernel_rfl) (fun _ _ _ h => h) (Or.inl ⟨by rfl, ?_⟩) (by assumption) ?_
  rotate_left
  · (intro w0 hSw; (try dsimp only at hSw); (try simp only [List.getElem_toArray, List.getElem_cons_zero, List.getElem_cons_succ]); go_simp; try (with_reducible rfl))
  try simp only [Act.put, List.getElem_toArray, List.getElem_cons_zero, List.getElem_cons_succ, List.setIfInBounds_toArray, List.set_cons_zero, List.set_cons_succ]
  refine wpAnyH_take (i := 7) (oi := _) (v := ?_) rfl (by kernel_rfl) (by kernel_rfl) (by kernel_rfl) (fun _ _ _ h => h) (Or.inl ⟨by rfl, ?_⟩) (by assumption) ?_
  rotate_left
  · (intro w0 hSw; (try dsimp only at hSw); (try simp only [List.getElem_toArray, List.getElem_cons_zero, List.getElem_cons_succ]); go_simp; try (with_reducible rfl))
  try simp only [Act.put, List.getElem_toArray, List.getElem_cons_zero, List.getElem_cons_succ, List.setIfInBounds_toArray, List.set_cons_zero, List.set_cons_succ]
  refine wpAnyH_take (i := 8) (oi := _) (v := ?_) rfl (by kernel_rfl) (by kernel_rfl) (by kernel_rfl) (fun _ _ _ h => h) (Or.inl ⟨by rfl, ?_⟩) (by assumption) ?_
  rotate_left
  · (intro w0 hSw; (try dsimp only at hSw); (try simp only [List.getElem_toArray, List.getElem_cons_zero, List.getElem_cons_succ]); go_simp; try (with_reducible rfl))
  try simp only [Act.put, List.getElem_toArray, List.getElem_cons_zero, List.getElem_cons_succ, List.setIfInBounds_toArray, List.set_cons_zero, List.set_cons_succ]
  refine wpAnyH_take (i := 9) (oi := _) (v := ?_) rfl (by kernel_rfl) (by kernel_rfl) (by kernel_rfl) (fun _ _ _ h => h) (Or.inl ⟨by rfl, ?_⟩) (by assumption) ?_
  rotate_left
  · (intro w0 hSw; (try dsimp only at hSw); (try simp only [List.getElem_toArray, List.getElem_cons_zero, List.getElem_cons_succ]); go_simp; try (with_reducible rfl))
  try simp only [Act.put, List.getElem_toArray, List.getElem_cons_zero, List.getElem_cons_succ, List.setIfInBounds_toArray, List.set_cons_zero, List.set_cons_succ]
  refine wpAnyH_take (i := 10) (oi := _) (v := ?_) rfl (by kernel_rfl) (by kernel_rfl) (by kernel_rfl) (fun _ _ _ h => h) (Or.inl ⟨by rfl, ?_⟩) (by assumption) ?_
  rotate_left
  · (intro w0 hSw; (try dsimp only at hSw); (try simp only [List.getElem_toArray, List.getElem_cons_zero, List.getElem_cons_succ]); go_simp; try (with_reducible rfl))
  try simp only [Act.put, List.getElem_toArray, List.getElem_cons_zero, List.getElem_cons_succ, List.setIfInBounds_toArray, List.set_cons_zero, List.set_cons_succ]
  refine wpAnyH_take (i := 11) (oi := _) (v := ?_) rfl (by kernel_rfl) (by kernel_rfl) (by kernel_rfl) (fun _ _ _ h => h) (Or.inl ⟨by rfl, ?_⟩) (by assumption) ?_
  rotate_left
  · (intro w0 hSw; (try dsimp only at hSw); (try simp only [List.getElem_toArray, List.getElem_cons_zero, List.getElem_cons_succ]); go_simp; try (with_reducible rfl))
  try simp only [Act.put, List.getElem_toArray, List.getElem_cons_zero, List.getElem_cons_succ, List.setIfInBounds_toArray, List.set_cons_zero, List.set_cons_succ]
  refine wpAnyH_take (i := 12) (oi := _) (v := ?_) rfl (by kernel_rfl) (by kernel_rfl) (by kernel_rfl) (fun _ _ _ h => h) (Or.inl ⟨by rfl, ?_⟩) (by assumption) ?_
  rotate_left
  · (intro w0 hSw; (try dsimp only at hSw); (try simp only [List.getElem_toArray, List.getElem_cons_zero, List.getElem_cons_succ]); go_simp; try (with_reducible rfl))
  try simp only [Act.put, List.getElem_toArray, List.getElem_cons_zero, List.getElem_cons_succ, List.setIfInBounds_toArray, List.set_cons_zero, List.set_cons_succ]
  refine wpAnyH_take (i := 13) (oi := _) (v := ?_) rfl (by kernel_rfl) (by kernel_rfl) (by kernel_rfl) (fun _ _ _ h => h) (Or.inl ⟨by rfl, ?_⟩) (by assumption) ?_
  rotate_left
  · (intro w0 hSw; (try dsimp only at hSw); (try simp only [List.getElem_toArray, List.getElem_cons_zero, List.getElem_cons_succ]); go_simp; try (with_reducible rfl))
  try simp only [Act.put, List.getElem_toArray, List.getElem_cons_zero, List.getElem_cons_succ, List.setIfInBounds_toArray, List.set_cons_zero, List.set_cons_succ]
  refine wpAnyH_take (i := 14) (oi := _) (v := ?_) rfl (by kernel_rfl) (by kernel_rfl) (by kernel_rfl) (fun _ _ _ h => h) (Or.inl ⟨by rfl, ?_⟩) (by assumption) ?_
  rotate_left
  · (intro w0 hSw; (try dsimp only at hSw); (try simp only [List.getElem_toArray, List.getElem_cons_zero, List.getElem_cons_succ]); go_simp; try (with_reducible rfl))
  try simp only [Act.put, List.getElem_toArray, List.getElem_cons_zero, List.getElem_cons_succ, List.setIfInBounds_toArray, List.set_cons_zero, List.set_cons_succ]
  refine wpAnyH_ready (rs := [15]) (by kernel_rfl) (by simp) ?_
  refine AllReadyH.cons (o := _) rfl (fun K hK => ?_) AllReadyH.nil
  (try simp only [List.getElem_toArray, List.getElem_cons_zero, List.getElem_cons_succ])
  go_simp
  go_at_call 28
  refine (HIS.out _ (Below.drew HA.out)).mono ?_
  rintro e v1 ⟨rfl, nq, rfl⟩
  go_wp2_with fail
  refine hK.out _ _ (by first | assumption | exact KV.out _ (Below.drew (HA.out)) | exact KV.out _ HA.out | exact KV.out _ (Below.drewN HA.out _) | exact KV.out _ (Below.drewN (Below.drew HA.out) _)) (fun hHeld1 => ?_)
  clear hK K
  try simp only [Act.put, List.setIfInBounds_toArray, List.set_cons_zero, List.set_cons_succ]
  refine wpAnyH_take (i := 16) (oi := _) (v := ?_) rfl (by kernel_rfl) (by kernel_rfl) (by kernel_rfl) (fun _ _ _ h => h) (Or.inl ⟨by rfl, ?_⟩) (by assumption) ?_
  rotate_left
  · (intro w0 hSw; (try dsimp only at hSw); (try simp only [List.getElem_toArray, List.getElem_cons_zero, List.getElem_cons_succ]); go_simp; try (with_reducible rfl))
  try simp only [Act.put, List.getElem_toArray, List.getElem_cons_zero, List.getElem_cons_succ, List.setIfInBounds_toArray, List.set_cons_zero, List.set_cons_succ]
  refine wpAnyH_take (i := 17) (oi := _) (v := ?_) rfl (by kernel_rfl) (by kernel_rfl) (by kernel_rfl) (fun _ _ _ h => h) (Or.inl ⟨by rfl, ?_⟩) (by assumption) ?_
  rotate_left
  · (intro w0 hSw; (try dsimp only at hSw); (try simp only [List.getElem_toArray, List.getElem_cons_zero, List.getElem_cons_succ]); go_simp; try (with_reducible rfl))
  try simp only [Act.put, List.getElem_toArray, List.getElem_cons_zero, List.getElem_cons_succ, List.setIfInBounds_toArray, List.set_cons_zero, List.set_cons_succ]
  refine wpAnyH_done (by kernel_rfl) ?_ _
  refine NoPanic.normal ?_
  clear hHeld hHeld1 KV HIS HA hmk2
  generalize hX : World.drewN _ _ = X
  have HBX : Hid (Below w.heap.size w X) := by rw [← hX]; exact Below.drewN ((Below.refl _ _).alloc (Nat.le_refl _) _) _
  have HZX : Hid (Blk X w.heap.size 32 #[.int .i64 0, .int .i64 0, .int .i64 0, .int .i64 0, .int .i64 0, .slice none 0 0, .slice none 0 0, .slice none 0 0]) := by rw [← hX]; exact Blk.new w _ _
  clear hX
  obtain ⟨rb, hrb⟩ : ∃ x, x = w.heap.size := ⟨_, rfl⟩
  rw [← hrb] at HZX ⊢
  have HRW := hidden (show w.heap.size ≤ rb by omega)
  clear hrb
  go_upto_region 5 with fail
  generalize hV0 : World.alloc X _ = V0
  obtain ⟨lb, hlbe⟩ : ∃ x, x = X.heap.size := ⟨_, rfl⟩
  have HL0 : Hid (Blk V0 lb 79 (ldQ (some ⟨ab, ao + 4, none⟩) bt (c - 4) 0 false)) := by
    rw [ldQ_new, HBL.out, ← hV0, hlbe]; exact Blk.new X _ _
  have HBV0 : Hid (Below w.heap.size w V0) := by rw [← hV0]; exact HBX.out.alloc HBX.out.size _
  have HZ0 : Hid (Blk V0 rb 32 #[.int .i64 0, .int .i64 0, .int .i64 0, .int .i64 0, .int .i64 0, .slice none 0 0, .slice none 0 0, .slice none 0 0]) := by rw [← hV0]; exact HZX.out.below ((Below.refl _ _).alloc (Nat.le_refl _) _)
  have hV0s : X.heap.size < V0.heap.size := by rw [← hV0]; simp
  have hrX := HZX.out.lt
  have hXw := HBX.out.size
  rw [← hlbe] at hV0s ⊢
  have hBl : B ≤ lb := by omega
  have hrl : rb ≠ lb := by omega
  have HLW := hidden (show w.heap.size ≤ lb by omega)
  clear hV0 hlbe HZX hrX hXw HBX
  obtain ⟨ni, HNI⟩ : ∃ x, Hid (numN bt 0 16 = x) := ⟨_, rfl⟩
  obtain ⟨no, HNO⟩ : ∃ x, Hid (numN bt 16 16 = x) := ⟨_, rfl⟩
  obtain ⟨nr, HNR⟩ : ∃ x, Hid (numN bt 32 16 = x) := ⟨_, rfl⟩
  obtain ⟨nw, HNW⟩ : ∃ x, Hid (numN bt 48 16 = x) := ⟨_, rfl⟩
  obtain ⟨nc, HNC⟩ : ∃ x, Hid (numN bt 64 16 = x) := ⟨_, rfl⟩
  have HSH : Hid (shS (numN bt) = ⟨(ni : Int), (no : Int), (nr : Int), (nw : Int), (nc : Int)⟩) := by show _ = _; unfold shS; rw [HNI.out, HNO.out, HNR.out, HNW.out, HNC.out]
  obtain ⟨ok, HOK⟩ : ∃ b, Hid ((shS (numN bt)).ok = b) := ⟨_, rfl⟩
  have SHA : Hid (Calls Tryd.prog 29 #[.pointer (some ⟨lb, 0, none⟩)] V0 fun e w' => e = .returned (.agg #[.int .i64 (ni : Int), .int .i64 (no : Int), .int .i64 (nr : Int), .int .i64 (nw : Int), .int .i64 (nc : Int)]) ∧ But lb V0 w' ∧ Blk w' lb 79 (ldQ (some ⟨ab, ao + 4, none⟩) bt (c - 4) 80 (!ok))) := by
    have := shape_any B V0 lb hBl (by omega) (some ⟨ab, ao + 4, none⟩) (c - 4) bt HL0.out (HRB.out V0 HBV0.out) (by have := HBL.out; omega) HBY.out
    rw [HOK.out, HSH.out] at this
    exact this
  have hV0w := HBV0.out.size
  go_upto_region 6 with (go_at_call 29; refine SHA.out.mono ?_; rintro e x1 ⟨rfl, g1, g2⟩; have HB1 := hidden g1; have HL1 := hidden g2; clear g1 g2)
  generalize hV2 : World.alloc x1 _ = V2
  obtain ⟨cb, hcbe⟩ : ∃ x, x = x1.heap.size := ⟨_, rfl⟩
  obtain ⟨sh, HSD⟩ : ∃ s : ShD, Hid (s = ⟨(ni : Int), (no : Int), (nr : Int), (nw : Int), (nc : Int)⟩) := ⟨_, rfl⟩
  have HC2 : Hid (Blk V2 cb 32 (cfA sh (.slice none 0 0) (.slice none 0 0) (.slice none 0 0))) := by rw [HSD.out, ← hV2, hcbe]; exact Blk.new x1 _ _
  have HB12 : Hid (But lb V0 V2) := HB1.out.trans (by rw [← hV2]; exact Below.but ((Below.refl _ _).alloc (Nat.le_refl _) _))
  have HL2 : Hid (Blk V2 lb 79 (ldQ (some ⟨ab, ao + 4, none⟩) bt (c - 4) 80 (!ok))) := by rw [← hV2]; exact HL1.out.below ((Below.refl _ _).alloc (Nat.le_refl _) _)
  have HZ2 : Hid (Blk V2 rb 32 #[.int .i64 0, .int .i64 0, .int .i64 0, .int .i64 0, .int .i64 0, .slice none 0 0, .slice none 0 0, .slice none 0 0]) := HB12.out.blk HZ0.out hrl
  have hx1s := HB1.out.size
  have hr0 := HZ0.out.lt
  have hcl : cb ≠ lb := by omega
  have hcr : cb ≠ rb := by omega
  have hBc : B ≤ cb := by omega
  have HCW := hidden (show w.heap.size ≤ cb by omega)
  rw [← hcbe]
  clear hV2 hcbe HB1 HL1 HL0 HZ0 hx1s SHA hr0
  have HBV2 : Hid (Below w.heap.size w V2) := HBV0.out.trans (HB12.out.below HLW.out hV0w)
  have hV2w := HBV2.out.size
  have q2 := ldQ_cell HL2.out
  obtain ⟨b6, HB6⟩ : ∃ b, Hid ((!ok || decide (8 * bt.length < 80)) = b) := ⟨_, rfl⟩
  rw [HB6.out] at q2
  cases b6
  · have HO1 : Hid (ok = true ∧ 80 ≤ 8 * bt.length) := by
      have := HB6.out
      simp at this
      exact this
    have hok := HOK.out
    rw [HO1.out.1, HSH.out] at hok
    unfold ShD.ok wi at hok
    simp only [Bool.and_eq_true, decide_eq_true_eq] at hok
    have HK := hidden (show ni ≤ 500 ∧ no ≤ 500 ∧ nr ≤ 500 ∧ nw ≤ 500 ∧ nc ≤ 100 ∧ 1 ≤ nc by omega)
    clear hok
    obtain ⟨k0, HK0⟩ : ∃ k, Hid (k0S (numN bt) = k) := ⟨_, rfl⟩
    obtain ⟨k1, HK1⟩ : ∃ k, Hid (k1S (numN bt) = k) := ⟨_, rfl⟩
    obtain ⟨P, HPE⟩ : ∃ k, Hid (regPS (numN bt) = k) := ⟨_, rfl⟩
    obtain ⟨Q, HQE⟩ : ∃ k, Hid (outPS (numN bt) = k) := ⟨_, rfl⟩
    have FIA : Hid (Calls Tryd.prog 30 #[.pointer (some ⟨lb, 0, none⟩), .pointer (some ⟨cb, 0, none⟩)] V2 fun e w' => (∃ v, e = .returned v) ∧ FillP V2 w' cb lb sh (regsS (numN bt)) (outsS (numN bt)) (colsS (numN bt)) (ldQ (some ⟨ab, ao + 4, none⟩) bt (c - 4) (endPS (numN bt)) (!selsOk (numN bt)))) := by
      obtain ⟨m1, m2, m3, m4, m5, m6⟩ := HK.out
      have hl2 := HL2.out
      rw [HO1.out.1] at hl2
      have := fill_any B V2 lb cb hBl hBc (by omega) hcl (some ⟨ab, ao + 4, none⟩) (c - 4) bt ni no nr nw nc sh HSD.out m1 m2 m3 m4 m5 m6 hl2 HC2.out (HRB.out V2 HBV2.out) (by have := HBL.out; omega) HBY.out k0 k1 (by rw [← HK0.out, k0S, HNI.out, HNR.out]) (by rw [← HK1.out, k1S, HNW.out]) P Q (by rw [← HPE.out, regPS, HNW.out, HNC.out, HK0.out, HK1.out]) (by rw [← HQE.out, outPS, HPE.out, HNR.out, HK1.out])
      unfold regsS outsS colsS selsOk endPS regsS outsS
      rw [HNO.out, HNR.out, HNW.out, HNC.out, HK0.out, HK1.out, HPE.out, HQE.out, HSH.out, ← HSD.out]
      exact this
    have ENA : Hid (∀ v3, Below w.heap.size w v3 → Blk v3 lb 79 (ldQ (some ⟨ab, ao + 4, none⟩) bt (c - 4) (endPS (numN bt)) (!selsOk (numN bt))) → Calls Tryd.prog 31 #[.pointer (some ⟨lb, 0, none⟩)] v3 fun e w' => (∃ v, e = .returned v) ∧ But lb v3 w' ∧ EndP w' lb (some ⟨ab, ao + 4, none⟩) bt.length (c - 4) (endBad bt (endPS (numN bt)) (!selsOk (numN bt)))) := fun v3 hv hk => end_any B v3 lb hBl (some ⟨ab, ao + 4, none⟩) (c - 4) bt (endPS (numN bt)) (!selsOk (numN bt)) hk (HRB.out v3 hv) (by have := HBL.out; omega) HBY.out
    obtain ⟨f, HFE⟩ : ∃ f, Hid (endBad bt (endPS (numN bt)) (!selsOk (numN bt)) = f) := ⟨_, rfl⟩
    rw [HFE.out] at ENA
    have HGV : Hid (g = !f) := by show _ = _; rw [HGD.out, HOK.out, HO1.out.1, HFE.out]; rfl
    have HSP : Hid (shS (numN bt) = sh) := by show _ = _; rw [HSH.out, HSD.out]
    have HCK : Hid ((colsS (numN bt)).length = nc ∧ (∀ l, l ∈ colsS (numN bt) → l.length = nw) ∧ (regsS (numN bt)).length = nr ∧ (outsS (numN bt)).length = no) := by
      refine ⟨by simp [colsS, HNC.out], fun l hl => ?_, by simp [regsS, HNR.out], by simp [outsS, HNO.out]⟩
      obtain ⟨i, -, rfl⟩ := List.mem_map.1 hl
      rw [HNW.out]
      exact clS_len _ _ _ _
    clear HGD HOK HNI HNO HNR HNW HNC HK0 HK1 HPE HQE HFE HSH
    go_upto_region 9 with (go_at_call 30; refine FIA.out.mono ?_; rintro e x3 ⟨⟨_, rfl⟩, hfp⟩; obtain ⟨base, u1, u2, u3, cols, hbs, hcb, hcs, hkp, hlk⟩ := hfp; have HBS := hidden hbs; have HCB := hidden hcb; have HCS := hidden hcs; have HKP := hidden hkp; have HLK := hidden hlk; clear hbs hcb hcs hkp hlk)
    obtain ⟨p1, m1, d1, rfl⟩ := own_val HCB.out.o1
    obtain ⟨p2, m2, d2, rfl⟩ := own_val HCB.out.o2
    obtain ⟨p3, m3, d3, rfl⟩ := own_val HCB.out.o3
    have HBX3 : Hid (Below w.heap.size w x3) := HBV2.out.trans (HKP.out.below (by have := HLW.out; have := HCW.out; simp; omega) hV2w)
    have HEN := hidden (ENA.out x3 HBX3.out HLK.out)
    go_upto_region 10 with (go_at_call 31; refine HEN.out.mono ?_; rintro e x4 ⟨⟨_, rfl⟩, g1, g2⟩; obtain ⟨at4, g3⟩ := g2; have HB4 := hidden g1; have HL4 := hidden g3; clear g1 g3)
    have hlbb : lb < base := by have := HL2.out.lt; have := HBS.out; omega
    have hrbb : rb < base := by have := HZ2.out.lt; have := HBS.out; omega
    have HC4 : Hid (CbAt base x4 cb sh (.slice p1 m1 d1) (.slice p2 m2 d2) (.slice p3 m3 d3) cols (regsS (numN bt)) (outsS (numN bt))) := HCB.out.but HB4.out hlbb hcl
    have HZ4 : Hid (Blk x4 rb 32 #[.int .i64 0, .int .i64 0, .int .i64 0, .int .i64 0, .int .i64 0, .slice none 0 0, .slice none 0 0, .slice none 0 0]) := HB4.out.blk (HKP.out.blk HZ2.out (by simp; omega)) hrl
    have HBX4 : Hid (Below w.heap.size w x4) := HBX3.out.trans (HB4.out.below HLW.out HBX3.out.size)
    have hX4w := HBX4.out.size
    have HCE : Hid (cfA sh (.slice p1 m1 d1) (.slice p2 m2 d2) (.slice p3 m3 d3) = #[.int .i64 (ni : Int), .int .i64 (no : Int), .int .i64 (nr : Int), .int .i64 (nw : Int), .int .i64 (nc : Int), .slice p1 m1 d1, .slice p2 m2 d2, .slice p3 m3 d3]) := by show _ = _; rw [HSD.out]; rfl
    have KQ : Hid (∀ v, But rb x4 v → (fun w' => w'.cell? ⟨cb, 0, none⟩ = some (.int .i64 (ni : Int)) ∧ w'.cell? ⟨cb, 1, none⟩ = some (.int .i64 (no : Int)) ∧ w'.cell? ⟨cb, 2, none⟩ = some (.int .i64 (nr : Int)) ∧ w'.cell? ⟨cb, 3, none⟩ = some (.int .i64 (nw : Int)) ∧ w'.cell? ⟨cb, 4, none⟩ = some (.int .i64 (nc : Int)) ∧ w'.cell? ⟨cb, 5, none⟩ = some (.slice p1 m1 d1) ∧ w'.cell? ⟨cb, 6, none⟩ = some (.slice p2 m2 d2) ∧ w'.cell? ⟨cb, 7, none⟩ = some (.slice p3 m3 d3) ∧ w'.cell? ⟨lb, 2, none⟩ = some (.bool f)) v) := fun v hv => by
      have b1 := hv.blk HC4.out.box hcr
      rw [HCE.out] at b1
      have b2 := hv.blk HL4.out (Ne.symm hrl)
      exact ⟨b1.cell rfl, b1.cell rfl, b1.cell rfl, b1.cell rfl, b1.cell rfl, b1.cell rfl, b1.cell rfl, b1.cell rfl, b2.cell rfl⟩
    have HBd : Hid (But rb x4 x4.drew) := But.drew (But.refl _ _)
    have HBc : Hid (But rb x4 (World.drew (World.setCell (World.setCell (World.setCell (World.setCell (World.setCell (World.setCell (World.setCell (World.setCell x4 ⟨rb, 0, none⟩ (.int .i64 (ni : Int))) ⟨rb, 1, none⟩ (.int .i64 (no : Int))) ⟨rb, 2, none⟩ (.int .i64 (nr : Int))) ⟨rb, 3, none⟩ (.int .i64 (nw : Int))) ⟨rb, 4, none⟩ (.int .i64 (nc : Int))) ⟨rb, 5, none⟩ (.slice p1 m1 d1)) ⟨rb, 6, none⟩ (.slice p2 m2 d2)) ⟨rb, 7, none⟩ (.slice p3 m3 d3)))) := But.drew (((((((((But.refl rb x4).trans (But.set rb 0 _ _)).trans (But.set rb 1 _ _)).trans (But.set rb 2 _ _)).trans (But.set rb 3 _ _)).trans (But.set rb 4 _ _)).trans (But.set rb 5 _ _)).trans (But.set rb 6 _ _)).trans (But.set rb 7 _ _))
    have HZd : Hid (Blk (World.drew (World.setCell (World.setCell (World.setCell (World.setCell (World.setCell (World.setCell (World.setCell (World.setCell x4 ⟨rb, 0, none⟩ (.int .i64 (ni : Int))) ⟨rb, 1, none⟩ (.int .i64 (no : Int))) ⟨rb, 2, none⟩ (.int .i64 (nr : Int))) ⟨rb, 3, none⟩ (.int .i64 (nw : Int))) ⟨rb, 4, none⟩ (.int .i64 (nc : Int))) ⟨rb, 5, none⟩ (.slice p1 m1 d1)) ⟨rb, 6, none⟩ (.slice p2 m2 d2)) ⟨rb, 7, none⟩ (.slice p3 m3 d3))) rb 32 #[.int .i64 (ni : Int), .int .i64 (no : Int), .int .i64 (nr : Int), .int .i64 (nw : Int), .int .i64 (nc : Int), .slice p1 m1 d1, .slice p2 m2 d2, .slice p3 m3 d3]) := Blk.drew (Blk.set (Blk.set (Blk.set (Blk.set (Blk.set (Blk.set (Blk.set (Blk.set HZ4.out 0 _) 1 _) 2 _) 3 _) 4 _) 5 _) 6 _) 7 _)
    have r0 : x4.cell? ⟨rb, 0, none⟩ = some (.int .i64 0) := HZ4.out.cell rfl
    have f0 := HZ4.out.frozen 0
    have r1 : x4.cell? ⟨rb, 1, none⟩ = some (.int .i64 0) := HZ4.out.cell rfl
    have f1 := HZ4.out.frozen 1
    have r2 : x4.cell? ⟨rb, 2, none⟩ = some (.int .i64 0) := HZ4.out.cell rfl
    have f2 := HZ4.out.frozen 2
    have r3 : x4.cell? ⟨rb, 3, none⟩ = some (.int .i64 0) := HZ4.out.cell rfl
    have f3 := HZ4.out.frozen 3
    have r4 : x4.cell? ⟨rb, 4, none⟩ = some (.int .i64 0) := HZ4.out.cell rfl
    have f4 := HZ4.out.frozen 4
    have r5 : x4.cell? ⟨rb, 5, none⟩ = some (.slice none 0 0) := HZ4.out.cell rfl
    have f5 := HZ4.out.frozen 5
    have r6 : x4.cell? ⟨rb, 6, none⟩ = some (.slice none 0 0) := HZ4.out.cell rfl
    have f6 := HZ4.out.frozen 6
    have r7 : x4.cell? ⟨rb, 7, none⟩ = some (.slice none 0 0) := HZ4.out.cell rfl
    have f7 := HZ4.out.frozen 7
    clear HRB HBY ENA FIA HEN q2
    refine wp_region_noPanic ?_
    refine wp_region_held_drew (S := (fun w' => w'.cell? ⟨cb, 0, none⟩ = some (.int .i64 (ni : Int)) ∧ w'.cell? ⟨cb, 1, none⟩ = some (.int .i64 (no : Int)) ∧ w'.cell? ⟨cb, 2, none⟩ = some (.int .i64 (nr : Int)) ∧ w'.cell? ⟨cb, 3, none⟩ = some (.int .i64 (nw : Int)) ∧ w'.cell? ⟨cb, 4, none⟩ = some (.int .i64 (nc : Int)) ∧ w'.cell? ⟨cb, 5, none⟩ = some (.slice p1 m1 d1) ∧ w'.cell? ⟨cb, 6, none⟩ = some (.slice p2 m2 d2) ∧ w'.cell? ⟨cb, 7, none⟩ = some (.slice p3 m3 d3) ∧ w'.cell? ⟨lb, 2, none⟩ = some (.bool f))) (by kernel_rfl) (by exact KQ.out _ HBd.out) (fun hHeld => ?_)
    refine wpAnyH_take (i := 0) (oi := _) (v := ?_) rfl (by kernel_rfl) (by kernel_rfl) (by kernel_rfl) (fun _ _ _ h => h) (Or.inl ⟨by rfl, ?_⟩) (by assumption) ?_
    rotate_left
    · (intro w0 hSw; (try dsimp only at hSw); (try simp only [List.getElem_toArray, List.getElem_cons_zero]); go_simp; try (with_reducible rfl))
    try simp only [Act.put, List.getElem_toArray, List.getElem_cons_zero, List.setIfInBounds_toArray, List.set_cons_zero, List.set_cons_succ]
    refine wpAnyH_take (i := 1) (oi := _) (v := ?_) rfl (by kernel_rfl) (by kernel_rfl) (by kernel_rfl) (fun _ _ _ h => h) (Or.inl ⟨by rfl, ?_⟩) (by assumption) ?_
    rotate_left
    · (intro w0 hSw; (try dsimp only at hSw); (try simp only [List.getElem_toArray, List.getElem_cons_zero, List.getElem_cons_succ]); go_simp; try (with_reducible rfl))
    try simp only [Act.put, List.getElem_toArray, List.getElem_cons_zero, List.getElem_cons_succ, List.setIfInBounds_toArray, List.set_cons_zero, List.set_cons_succ]
    refine wpAnyH_take (i := 2) (oi := _) (v := ?_) rfl (by kernel_rfl) (by kernel_rfl) (by kernel_rfl) (fun _ _ _ h => h) (Or.inl ⟨by rfl, ?_⟩) (by assumption) ?_
    rotate_left
    · (intro w0 hSw; (try dsimp only at hSw); (try simp only [List.getElem_toArray, List.getElem_cons_zero, List.getElem_cons_succ]); go_simp; try (with_reducible rfl))
    try simp only [Act.put, List.getElem_toArray, List.getElem_cons_zero, List.getElem_cons_succ, List.setIfInBounds_toArray, List.set_cons_zero, List.set_cons_succ]
    refine wpAnyH_take (i := 3) (oi := _) (v := ?_) rfl (by kernel_rfl) (by kernel_rfl) (by kernel_rfl) (fun _ _ _ h => h) (Or.inl ⟨by rfl, ?_⟩) (by assumption) ?_
    rotate_left
    · (intro w0 hSw; (try dsimp only at hSw); (try simp only [List.getElem_toArray, List.getElem_cons_zero, List.getElem_cons_succ]); go_simp; try (with_reducible rfl))
    try simp only [Act.put, List.getElem_toArray, List.getElem_cons_zero, List.getElem_cons_succ, List.setIfInBounds_toArray, List.set_cons_zero, List.set_cons_succ]
    refine wpAnyH_take (i := 4) (oi := _) (v := ?_) rfl (by kernel_rfl) (by kernel_rfl) (by kernel_rfl) (fun _ _ _ h => h) (Or.inl ⟨by rfl, ?_⟩) (by assumption) ?_
    rotate_left
    · (intro w0 hSw; (try dsimp only at hSw); (try simp only [List.getElem_toArray, List.getElem_cons_zero, List.getElem_cons_succ]); go_simp; try (with_reducible rfl))
    try simp only [Act.put, List.getElem_toArray, List.getElem_cons_zero, List.getElem_cons_succ, List.setIfInBounds_toArray, List.set_cons_zero, List.set_cons_succ]
    refine wpAnyH_take (i := 5) (oi := _) (v := ?_) rfl (by kernel_rfl) (by kernel_rfl) (by kernel_rfl) (fun _ _ _ h => h) (Or.inl ⟨by rfl, ?_⟩) (by assumption) ?_
    rotate_left
    · (intro w0 hSw; (try dsimp only at hSw); (try simp only [List.getElem_toArray, List.getElem_cons_zero, List.getElem_cons_succ]); go_simp; try (with_reducible rfl))
    try simp only [Act.put, List.getElem_toArray, List.getElem_cons_zero, List.getElem_cons_succ, List.setIfInBounds_toArray, List.set_cons_zero, List.set_cons_succ]
    refine wpAnyH_ready (rs := [6]) (by kernel_rfl) (by simp) ?_
    refine AllReadyH.cons (o := _) rfl (fun K hK => ?_) AllReadyH.nil
    (try simp only [List.getElem_toArray, List.getElem_cons_zero, List.getElem_cons_succ])
    go_simp
    skip
    go_wp2_with fail
    refine hK.out _ _ (by exact KQ.out _ HBc.out) (fun hHeld1 => ?_)
    clear hK K
    try simp only [Act.put, List.setIfInBounds_toArray, List.set_cons_zero, List.set_cons_succ]
    refine wpAnyH_take (i := 7) (oi := _) (v := ?_) rfl (by kernel_rfl) (by kernel_rfl) (by kernel_rfl) (fun _ _ _ h => h) (Or.inl ⟨by rfl, ?_⟩) (by assumption) ?_
    rotate_left
    · (intro w0 hSw; (try dsimp only at hSw); (try simp only [List.getElem_toArray, List.getElem_cons_zero, List.getElem_cons_succ]); go_simp; try (with_reducible rfl))
    try simp only [Act.put, List.getElem_toArray, List.getElem_cons_zero, List.getElem_cons_succ, List.setIfInBounds_toArray, List.set_cons_zero, List.set_cons_succ]
    refine wpAnyH_done (by kernel_rfl) ?_ _
    refine NoPanic.normal ?_
    generalize (World.drew (World.setCell (World.setCell (World.setCell (World.setCell (World.setCell (World.setCell (World.setCell (World.setCell x4 ⟨rb, 0, none⟩ (.int .i64 (ni : Int))) ⟨rb, 1, none⟩ (.int .i64 (no : Int))) ⟨rb, 2, none⟩ (.int .i64 (nr : Int))) ⟨rb, 3, none⟩ (.int .i64 (nw : Int))) ⟨rb, 4, none⟩ (.int .i64 (nc : Int))) ⟨rb, 5, none⟩ (.slice p1 m1 d1)) ⟨rb, 6, none⟩ (.slice p2 m2 d2)) ⟨rb, 7, none⟩ (.slice p3 m3 d3))) = Y at *
    clear r0 f0 r1 f1 r2 f2 r3 f3 r4 f4 r5 f5 r6 f6 r7 f7
    have r0 : Y.cell? ⟨rb, 0, none⟩ = some (.int .i64 (ni : Int)) := HZd.out.cell rfl
    have r1 : Y.cell? ⟨rb, 1, none⟩ = some (.int .i64 (no : Int)) := HZd.out.cell rfl
    have r2 : Y.cell? ⟨rb, 2, none⟩ = some (.int .i64 (nr : Int)) := HZd.out.cell rfl
    have r3 : Y.cell? ⟨rb, 3, none⟩ = some (.int .i64 (nw : Int)) := HZd.out.cell rfl
    have r4 : Y.cell? ⟨rb, 4, none⟩ = some (.int .i64 (nc : Int)) := HZd.out.cell rfl
    have r5 : Y.cell? ⟨rb, 5, none⟩ = some (.slice p1 m1 d1) := HZd.out.cell rfl
    have r6 : Y.cell? ⟨rb, 6, none⟩ = some (.slice p2 m2 d2) := HZd.out.cell rfl
    have r7 : Y.cell? ⟨rb, 7, none⟩ = some (.slice p3 m3 d3) := HZd.out.cell rfl
    go_wp2
    refine bodyPost_ret (v := .tuple #[.agg #[.int .i64 (ni : Int), .int .i64 (no : Int), .int .i64 (nr : Int), .int .i64 (nw : Int), .int .i64 (nc : Int), .slice p1 m1 d1, .slice p2 m2 d2, .slice p3 m3 d3], .bool (!f)]) (by simp [results, Tryd.results16, go_sem, *]) rfl ?_
    refine ⟨⟨#[.int .i64 (ni : Int), .int .i64 (no : Int), .int .i64 (nr : Int), .int .i64 (nw : Int), .int .i64 (nc : Int), .slice p1 m1 d1, .slice p2 m2 d2, .slice p3 m3 d3], by rw [HGV.out], ⟨⟨(ni : Int), (no : Int), (nr : Int), (nw : Int), (nc : Int)⟩, p1, m1, d1, p2, m2, d2, p3, m3, d3, rfl⟩, fun _ => ?_⟩, HBX4.out.trans (HBc.out.below HRW.out hX4w)⟩
    have hcy := HC4.out.but HBc.out hrbb hcr
    obtain ⟨c1, c2, c3, c4⟩ := HCK.out
    have hcl2 : cols.length = nc := by rw [← c1, ← HCS.out, List.length_map]
    have hK := HK.out
    obtain ⟨S, hS, hN⟩ := hcy.cn (by simp only [big]; omega) (fun d hd => by have := c2 d.cs (by rw [← HCS.out]; exact List.mem_map_of_mem hd); simp only [big]; omega) (by rw [c3]; simp only [big]; omega) (by rw [c4]; simp only [big]; omega)
    refine ⟨S, _, ?_, ⟨HSP.out.symm, HCS.out, rfl, rfl⟩, hN⟩
    rw [← hS, HCE.out]
  · have HGF : Hid (g = false) := by
      show g = false
      rw [HGD.out, HOK.out]
      cases hok : ok
      · rfl
      · have h1 := HB6.out
        rw [hok] at h1
        simp at h1
        have h2 := endPS_ge (numN bt)
        have : endBad bt (endPS (numN bt)) (!selsOk (numN bt)) = true := by
          unfold endBad
          rw [decide_eq_true (p := 8 * bt.length < endPS (numN bt)) (by omega)]
          simp
        rw [this]; rfl
    have r0 : V2.cell? ⟨rb, 0, none⟩ = some (.int .i64 0) := HZ2.out.cell rfl
    have f0 := HZ2.out.frozen 0
    have r1 : V2.cell? ⟨rb, 1, none⟩ = some (.int .i64 0) := HZ2.out.cell rfl
    have f1 := HZ2.out.frozen 1
    have r2 : V2.cell? ⟨rb, 2, none⟩ = some (.int .i64 0) := HZ2.out.cell rfl
    have f2 := HZ2.out.frozen 2
    have r3 : V2.cell? ⟨rb, 3, none⟩ = some (.int .i64 0) := HZ2.out.cell rfl
    have f3 := HZ2.out.frozen 3
    have r4 : V2.cell? ⟨rb, 4, none⟩ = some (.int .i64 0) := HZ2.out.cell rfl
    have f4 := HZ2.out.frozen 4
    have r5 : V2.cell? ⟨rb, 5, none⟩ = some (.slice none 0 0) := HZ2.out.cell rfl
    have f5 := HZ2.out.frozen 5
    have r6 : V2.cell? ⟨rb, 6, none⟩ = some (.slice none 0 0) := HZ2.out.cell rfl
    have f6 := HZ2.out.frozen 6
    have r7 : V2.cell? ⟨rb, 7, none⟩ = some (.slice none 0 0) := HZ2.out.cell rfl
    have f7 := HZ2.out.frozen 7
    clear HRB HBY HGD HOK HSH HB6 HC2
    go_wp2
    have HR6 : Hid (Blk (World.setCell (World.setCell (World.setCell (World.setCell (World.setCell (World.setCell (World.setCell (World.setCell V2 ⟨rb, 0, none⟩ (.int .i64 0)) ⟨rb, 1, none⟩ (.int .i64 0)) ⟨rb, 2, none⟩ (.int .i64 0)) ⟨rb, 3, none⟩ (.int .i64 0)) ⟨rb, 4, none⟩ (.int .i64 0)) ⟨rb, 5, none⟩ (.slice none 0 0)) ⟨rb, 6, none⟩ (.slice none 0 0)) ⟨rb, 7, none⟩ (.slice none 0 0)) rb 32 #[.int .i64 0, .int .i64 0, .int .i64 0, .int .i64 0, .int .i64 0, .slice none 0 0, .slice none 0 0, .slice none 0 0]) := (Blk.set (Blk.set (Blk.set (Blk.set (Blk.set (Blk.set (Blk.set (Blk.set HZ2.out 0 _) 1 _) 2 _) 3 _) 4 _) 5 _) 6 _) 7 _)
    have HB6 : Hid (But rb V2 (World.setCell (World.setCell (World.setCell (World.setCell (World.setCell (World.setCell (World.setCell (World.setCell V2 ⟨rb, 0, none⟩ (.int .i64 0)) ⟨rb, 1, none⟩ (.int .i64 0)) ⟨rb, 2, none⟩ (.int .i64 0)) ⟨rb, 3, none⟩ (.int .i64 0)) ⟨rb, 4, none⟩ (.int .i64 0)) ⟨rb, 5, none⟩ (.slice none 0 0)) ⟨rb, 6, none⟩ (.slice none 0 0)) ⟨rb, 7, none⟩ (.slice none 0 0))) := (((((((((But.refl rb V2).trans (But.set rb 0 _ _)).trans (But.set rb 1 _ _)).trans (But.set rb 2 _ _)).trans (But.set rb 3 _ _)).trans (But.set rb 4 _ _)).trans (But.set rb 5 _ _)).trans (But.set rb 6 _ _)).trans (But.set rb 7 _ _))
    generalize (World.setCell (World.setCell (World.setCell (World.setCell (World.setCell (World.setCell (World.setCell (World.setCell V2 ⟨rb, 0, none⟩ (.int .i64 0)) ⟨rb, 1, none⟩ (.int .i64 0)) ⟨rb, 2, none⟩ (.int .i64 0)) ⟨rb, 3, none⟩ (.int .i64 0)) ⟨rb, 4, none⟩ (.int .i64 0)) ⟨rb, 5, none⟩ (.slice none 0 0)) ⟨rb, 6, none⟩ (.slice none 0 0)) ⟨rb, 7, none⟩ (.slice none 0 0)) = Y at *
    clear r0 f0 r1 f1 r2 f2 r3 f3 r4 f4 r5 f5 r6 f6 r7 f7 q2
    have r0 : Y.cell? ⟨rb, 0, none⟩ = some (.int .i64 0) := HR6.out.cell rfl
    have r1 : Y.cell? ⟨rb, 1, none⟩ = some (.int .i64 0) := HR6.out.cell rfl
    have r2 : Y.cell? ⟨rb, 2, none⟩ = some (.int .i64 0) := HR6.out.cell rfl
    have r3 : Y.cell? ⟨rb, 3, none⟩ = some (.int .i64 0) := HR6.out.cell rfl
    have r4 : Y.cell? ⟨rb, 4, none⟩ = some (.int .i64 0) := HR6.out.cell rfl
    have r5 : Y.cell? ⟨rb, 5, none⟩ = some (.slice none 0 0) := HR6.out.cell rfl
    have r6 : Y.cell? ⟨rb, 6, none⟩ = some (.slice none 0 0) := HR6.out.cell rfl
    have r7 : Y.cell? ⟨rb, 7, none⟩ = some (.slice none 0 0) := HR6.out.cell rfl
    refine bodyPost_ret (v := .tuple #[.agg #[.int .i64 0, .int .i64 0, .int .i64 0, .int .i64 0, .int .i64 0, .slice none 0 0, .slice none 0 0, .slice none 0 0], .bool false]) (by simp [results, Tryd.results16, go_sem, *]) rfl ?_
    exact ⟨⟨#[.int .i64 0, .int .i64 0, .int .i64 0, .int .i64 0, .int .i64 0, .slice none 0 0, .slice none 0 0, .slice none 0 0], by rw [HGF.out], ⟨⟨0, 0, 0, 0, 0⟩, none, 0, 0, none, 0, 0, none, 0, 0, rfl⟩, fun h => by rw [HGF.out] at h; cases h⟩, HBV2.out.trans (HB6.out.below HRW.out hV2w)⟩

end Go.Proofs.YtjbnejjjbdalaaaDoor
