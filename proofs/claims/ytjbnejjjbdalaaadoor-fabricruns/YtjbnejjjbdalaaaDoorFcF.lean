import Derived.Test.YtjbnejjjbdalaaaDoorFcE
namespace Go.Proofs.YtjbnejjjbdalaaaDoor
open Go.RowKit

set_option maxRecDepth 100000 in
set_option maxHeartbeats 16000000 in
theorem decode_shape (B : Nat) (w : World) (hBw : B ≤ w.heap.size) (a : Option Addr) (c : Nat) (bs : List Nat) (R : RowAt B w a 1 (bs.map byteC)) (hl : bs.length < 281474976710656) (hby : ∀ x, x ∈ bs → x < 256) (hc : bs.length ≤ c) (h18 : 18 ≤ bs.length) (hmk : bs.take 4 = markL) (hsm : sumB (crcV (bodyL bs)) = lastL bs) (hok : (shS (numN (bitL bs))).ok = false) :
    Calls Tryd.prog 8 #[.slice a bs.length c] w fun e w' => BadD w e w' := by
  obtain ⟨ab, ao, ea, hlb, -⟩ := R (by intro e; rw [List.map_eq_nil_iff.1 e] at h18; simp at h18)
  subst ea
  obtain ⟨n, hn⟩ : ∃ n, bs.length = n + 4 := ⟨bs.length - 4, by omega⟩
  have hn4 : bs.length - 4 = n := by omega
  have htk : ∀ x, x ∈ bs.take 4 → x < 256 := fun x hx => hby x (List.mem_of_mem_take hx)
  have KV4 : Hid (∀ v, Below w.heap.size w v → (convert 22 9 (.slice (some ⟨ab, ao, none⟩) 4 c)).run Tryd.prog v = .ok (.string (strB (bs.take 4))) v) := fun v hv => by
    have := conv_bytes ((R.to (hv.mono hBw)).take 4) htk c
    rw [List.length_take, show min 4 bs.length = 4 by omega] at this
    exact this
  have hla : (lastL bs).length = 4 := by unfold lastL; rw [List.length_drop]; omega
  have hbod : (bodyL bs).length = n := by unfold bodyL; rw [List.length_take, hn4]; omega
  have hbb : ∀ x, x ∈ bodyL bs → x < 256 := fun x hx => hby x (List.mem_of_mem_take hx)
  have hlb2 : ∀ x, x ∈ lastL bs → x < 256 := fun x hx => hby x (List.mem_of_mem_drop hx)
  have KVL : Hid (∀ v, Below w.heap.size w v → (fun w' => (convert 22 9 (.slice (some ⟨ab, ao + n, none⟩) 4 (c - n))).run Tryd.prog w' = .ok (.string (strB (lastL bs))) w') v) := fun v hv => by
    have h := conv_bytes (show RowAt B v (some ⟨ab, ao + n, none⟩) 1 ((lastL bs).map byteC) by unfold lastL; rw [hn4]; exact (R.to (hv.mono hBw)).drop n) hlb2 (c - n)
    rw [hla] at h
    exact h
  have SUMC : Hid (∀ v, Below w.heap.size w v → Calls Tryd.prog 15 #[.slice (some ⟨ab, ao, none⟩) n c] v fun e w' => e = .returned (.slice (some ⟨v.heap.size, 0, none⟩) 4 4) ∧ w' = v.alloc (.cells (((sumB (crcV (bodyL bs))).map byV).toArray) 5)) := fun v hv => by
    have := sums_doc B v (some ⟨ab, ao, none⟩) c (bodyL bs) ((R.to (hv.mono hBw)).take _) (by omega) hbb
    rw [hbod] at this
    exact this
  have hsl : (sumB (crcV (bodyL bs))).length = 4 := rfl
  have hsb2 : ∀ x, x ∈ sumB (crcV (bodyL bs)) → x < 256 := by
    intro x hx
    simp [sumB] at hx
    omega
  have KVS : Hid (∀ v : World, (convert 22 9 (.slice (some ⟨v.heap.size, 0, none⟩) 4 4)).run Tryd.prog (v.alloc (.cells (((sumB (crcV (bodyL bs))).map byV).toArray) 5)) = .ok (.string (strB (sumB (crcV (bodyL bs))))) (v.alloc (.cells (((sumB (crcV (bodyL bs))).map byV).toArray) 5))) := fun v => by
    refine conv_bytes (B := v.heap.size + 1) (w := v.alloc (.cells (((sumB (crcV (bodyL bs))).map byV).toArray) 5)) (a := some ⟨v.heap.size, 0, none⟩) (l := sumB (crcV (bodyL bs))) ?_ hsb2 4
    exact fun _ => ⟨v.heap.size, 0, rfl, Nat.lt_succ_self _, fun i cs hi j x hx => by
      rw [List.getElem?_map] at hi
      cases hq : (sumB (crcV (bodyL bs)))[i]? with
      | none => rw [hq] at hi; cases hi
      | some y =>
        rw [hq] at hi
        have ecs : byteC y = cs := by simpa using hi
        subst ecs
        have hj : j = 0 := by
          rcases j with _ | j
          · rfl
          · simp [byteC] at hx
        subst hj
        have ex : byV y = x := by simpa [byteC, byV] using hx
        subst ex
        refine (Blk.new v 5 _).cell ?_
        simp [hq]⟩
  have hmk2 : ((strB (bs.take 4)).toList == [71, 87, 66, 49]) = true := by rw [str_mark _ htk, decide_eq_true hmk]
  have hss2 : ((strB (sumB (crcV (bodyL bs)))).toList == (strB (lastL bs)).toList) = decide (sumB (crcV (bodyL bs)) = lastL bs) := strB_eq hsb2 hlb2
  have hbt4 : bodyL bs = markL ++ bitL bs := by
    unfold bitL
    rw [← hmk]
    have : (bodyL bs).take 4 = bs.take 4 := by unfold bodyL; rw [List.take_take, Nat.min_eq_left (by omega)]
    rw [← this, List.take_append_drop]
  obtain ⟨bd, hbd⟩ : ∃ b, b = bodyL bs := ⟨_, rfl⟩
  obtain ⟨bt, hbt⟩ : ∃ b, b = bitL bs := ⟨_, rfl⟩
  have HBDL : Hid (bd.length = n) := by rw [hbd]; exact hbod
  have HNN : Hid (∀ p k, numN bd (32 + p) k = numN bt p k) := fun p k => by rw [hbd, hbt, hbt4]; exact numN_app markL _ rfl p k
  have TAKC : Hid (∀ (v : World) (p sb : Nat), Blk v sb 48 (stQ (some ⟨ab, ao, none⟩) bd c (32 + p)) → Below w.heap.size w v → w.heap.size ≤ sb → 32 + p + 16 ≤ 8 * n → Calls Tryd.prog 21 #[.pointer (some ⟨sb, 0, none⟩), .int .i64 16] v fun e w' => e = .returned (.int .i64 ((numN bd (32 + p) 16 : Nat) : Int)) ∧ But sb v w' ∧ Blk w' sb 48 (stQ (some ⟨ab, ao, none⟩) bd c (32 + (p + 16)))) := fun v p sb h1 h2 h3 h4 => by
    have := take_doc B v sb (Nat.le_trans hBw h3) (some ⟨ab, ao, none⟩) c bd (32 + p) 16 h1 (by rw [hbd]; exact (R.to (h2.mono hBw)).take _) (by rw [hbd, hbod]; omega) (by rw [hbd]; exact hbb) (by omega)
    unfold takeV at this
    rw [if_pos (by rw [hbd, hbod]; omega), Nat.add_assoc] at this
    exact this
  have hn14 : 14 ≤ n := by omega
  have hss3 : ((strB (sumB (crcV (bodyL bs)))).toList == (strB (lastL bs)).toList) = true := by rw [hss2, decide_eq_true hsm]
  rw [← hbt] at hok
  have HSOK := hidden hok
  clear hss2 hok
  unfold BadD
  have hlI : ¬ (bs.length : Int) < 18 := by omega
  rw [hn] at hlI hc hl ⊢
  have ew : IntKind.i64.wrap (n : Int) = (n : Int) := wrapI _ (by omega) (by omega)
  have hcI : (n : Int) + 4 ≤ (c : Int) := by omega
  have h4c : (4 : Int) ≤ (c : Int) := by omega
  have hnc : (n : Int) ≤ (c : Int) := by omega
  have hnn : (n : Int) ≤ (n : Int) + 4 := by omega
  have hcn : ¬ (c = n) := by omega
  have l2 : decide ((n : Int) < 4) = false := decide_eq_false (by omega)
  clear R hby hc htk hmk h18 hlb hn hn4 hla hbod hbb hlb2 hsl hsb2 hsm hbd hbt hbt4
  generalize strB (bs.take 4) = sm at *
  generalize strB (sumB (crcV (bodyL bs))) = ss at *
  generalize strB (lastL bs) = sl at *
  go_enter Tryd.func8, Tryd.ntmps8
  go_upto_region 2 with fail
  obtain ⟨h0, e0⟩ : ∃ x, x = w.heap.size := ⟨_, rfl⟩
  obtain ⟨h1, e1⟩ : ∃ x, x = w.heap.size + 1 := ⟨_, rfl⟩
  obtain ⟨h2, e2⟩ : ∃ x, x = w.heap.size + 1 + 1 := ⟨_, rfl⟩
  generalize hX : World.alloc (World.alloc (World.alloc w _) _) _ = X
  have HBX : Hid (Below w.heap.size w X) := by rw [← hX]; exact (((Below.refl _ _).alloc (Nat.le_refl _) _).alloc (by simp) _).alloc (by simp; omega) _
  have HZ0 : Hid (Blk X h0 32 zeroA) := by
    rw [← hX, e0]
    exact ((Blk.new w 32 zeroA).below ((Below.refl _ _).alloc (Nat.le_refl _) _)).below ((Below.refl _ _).alloc (Nat.le_refl _) _)
  have HZ1 : Hid (Blk X h1 40 #[.int .i64 0, .int .i64 0]) := by
    rw [← hX, e1]
    have h := Blk.new (w.alloc (.cells zeroA 32)) 40 #[.int .i64 0, .int .i64 0]
    rw [show (w.alloc (.cells zeroA 32)).heap.size = w.heap.size + 1 by simp] at h
    exact h.below ((Below.refl _ _).alloc (Nat.le_refl _) _)
  have HZ2 : Hid (Blk X h2 40 #[.int .i64 18, .int .i64 0]) := by
    rw [← hX, e2]
    have h := Blk.new ((w.alloc (.cells zeroA 32)).alloc (.cells #[.int .i64 0, .int .i64 0] 40)) 40 #[.int .i64 18, .int .i64 0]
    rw [show ((w.alloc (.cells zeroA 32)).alloc (.cells #[.int .i64 0, .int .i64 0] 40)).heap.size = w.heap.size + 1 + 1 by simp] at h
    exact h
  rw [← e2, ← e1, ← e0]
  have hh01 : h0 ≠ h1 ∧ h0 ≠ h2 ∧ h1 ≠ h2 ∧ w.heap.size ≤ h0 ∧ w.heap.size ≤ h1 ∧ w.heap.size ≤ h2 := by omega
  obtain ⟨n01, n02, n12, g0, g1, g2⟩ := hh01
  clear hX e0 e1 e2
  have cv4 := KV4.out X HBX.out
  go_wp2_with fail
  clear cv4 KV4
  refine wp_region_noPanic ?_
  refine wp_region_held_drew (S := (fun w' => (convert 22 9 (.slice (some ⟨ab, ao + n, none⟩) 4 (c - n))).run Tryd.prog w' = .ok (.string sl) w')) (by kernel_rfl) (by exact KVL.out _ (Below.drew HBX.out)) (fun hHeld => ?_)
  refine wpAnyH_take (i := 0) (oi := _) (v := ?_) rfl (by kernel_rfl) (by kernel_rfl) (by kernel_rfl) (fun _ _ _ h => h) (Or.inl ⟨by rfl, ?_⟩) (by assumption) ?_
  rotate_left
  · (intro w0 hSw; (try dsimp only at hSw); (try simp only [List.getElem_toArray, List.getElem_cons_zero]); go_simp; try (with_reducible rfl))
  try simp only [Act.put, List.getElem_toArray, List.getElem_cons_zero, List.setIfInBounds_toArray, List.set_cons_zero, List.set_cons_succ]
  refine wpAnyH_take (i := 3) (oi := _) (v := ?_) rfl (by kernel_rfl) (by kernel_rfl) (by kernel_rfl) (fun _ _ _ h => h) (Or.inl ⟨by rfl, ?_⟩) (by assumption) ?_
  rotate_left
  · (intro w0 hSw; (try dsimp only at hSw); (try simp only [List.getElem_toArray, List.getElem_cons_zero, List.getElem_cons_succ]); go_simp; try (with_reducible rfl))
  try simp only [Act.put, List.getElem_toArray, List.getElem_cons_zero, List.getElem_cons_succ, List.setIfInBounds_toArray, List.set_cons_zero, List.set_cons_succ]
  refine wpAnyH_take (i := 4) (oi := _) (v := ?_) rfl (by kernel_rfl) (by kernel_rfl) (by kernel_rfl) (fun _ _ _ h => h) (Or.inl ⟨by rfl, ?_⟩) (by assumption) ?_
  rotate_left
  · (intro w0 hSw; (try dsimp only at hSw); (try simp only [List.getElem_toArray, List.getElem_cons_zero, List.getElem_cons_succ]); go_simp; try (with_reducible rfl))
  try simp only [Act.put, List.getElem_toArray, List.getElem_cons_zero, List.getElem_cons_succ, List.setIfInBounds_toArray, List.set_cons_zero, List.set_cons_succ]
  refine wpAnyH_take (i := 5) (oi := _) (v := ?_) rfl (by kernel_rfl) (by kernel_rfl) (by kernel_rfl) (fun _ _ _ h => h) (Or.inl ⟨by rfl, ?_⟩) (by assumption) ?_
  rotate_left
  · (intro w0 hSw; (try dsimp only at hSw); (try simp only [List.getElem_toArray, List.getElem_cons_zero, List.getElem_cons_succ]); go_simp; try (with_reducible rfl))
  try simp only [Act.put, List.getElem_toArray, List.getElem_cons_zero, List.getElem_cons_succ, List.setIfInBounds_toArray, List.set_cons_zero, List.set_cons_succ]
  refine wpAnyH_take (i := 6) (oi := _) (v := ?_) rfl (by kernel_rfl) (by kernel_rfl) (by kernel_rfl) (fun _ _ _ h => h) (Or.inl ⟨by rfl, ?_⟩) (by assumption) ?_
  rotate_left
  · (intro w0 hSw; (try dsimp only at hSw); (try simp only [List.getElem_toArray, List.getElem_cons_zero, List.getElem_cons_succ]); go_simp; try (with_reducible rfl))
  try simp only [Act.put, List.getElem_toArray, List.getElem_cons_zero, List.getElem_cons_succ, List.setIfInBounds_toArray, List.set_cons_zero, List.set_cons_succ]
  refine wpAnyH_take (i := 7) (oi := _) (v := ?_) rfl (by kernel_rfl) (by kernel_rfl) (by kernel_rfl) (fun _ _ _ h => h) (Or.inl ⟨by rfl, ?_⟩) (by assumption) ?_
  rotate_left
  · (intro w0 hSw; (try dsimp only at hSw); (try simp only [List.getElem_toArray, List.getElem_cons_zero, List.getElem_cons_succ]); go_simp; try (with_reducible rfl))
  try simp only [Act.put, List.getElem_toArray, List.getElem_cons_zero, List.getElem_cons_succ, List.setIfInBounds_toArray, List.set_cons_zero, List.set_cons_succ]
  refine wpAnyH_take (i := 8) (oi := _) (v := ?_) rfl (by kernel_rfl) (by kernel_rfl) (by kernel_rfl) (fun _ _ _ h => h) (Or.inl ⟨by rfl, ?_⟩) (by assumption) ?_
  rotate_left
  · (intro w0 hSw; (try dsimp only at hSw); (try simp only [List.getElem_toArray, List.getElem_cons_zero, List.getElem_cons_succ]); go_simp; try (with_reducible rfl))
  try simp only [Act.put, List.getElem_toArray, List.getElem_cons_zero, List.getElem_cons_succ, List.setIfInBounds_toArray, List.set_cons_zero, List.set_cons_succ]
  refine wpAnyH_ready (rs := [1]) (by kernel_rfl) (by simp) ?_
  refine AllReadyH.cons (o := _) rfl (fun K hK => ?_) AllReadyH.nil
  (try simp only [List.getElem_toArray, List.getElem_cons_zero, List.getElem_cons_succ])
  go_simp
  go_at_call 15
  refine (SUMC.out _ (Below.drew HBX.out)).mono ?_
  rintro e v1 ⟨rfl, hv1⟩
  have HB5 : Hid (Below X.drew.heap.size X.drew v1) := by rw [hv1]; exact (Below.refl _ _).alloc (Nat.le_refl _) _
  have HBV1 : Hid (Below w.heap.size w v1) := (Below.drew HBX.out).trans (HB5.out.mono HBX.out.size)
  have cv5 : (convert 22 9 (.slice (some ⟨X.heap.size, 0, none⟩) 4 4)).run Tryd.prog v1 = .ok (.string ss) v1 := by rw [hv1]; exact KVS.out X.drew
  clear hv1
  go_wp2_with fail
  refine hK.out _ _ (by exact KVL.out _ HBV1.out) (fun hHeld1 => ?_)
  clear hK K
  (try simp only [Act.put]); (try simp only [List.setIfInBounds_toArray]); (try simp only [List.set_cons_zero, List.set_cons_succ])
  refine wpAnyH_ready (rs := [2]) (by kernel_rfl) (by simp) ?_
  refine AllReadyH.cons (o := _) rfl (fun K hK => ?_) AllReadyH.nil
  (try simp only [List.getElem_toArray, List.getElem_cons_zero, List.getElem_cons_succ])
  go_simp
  refine hK.out _ _ (by exact KVL.out _ HBV1.out) (fun hHeld2 => ?_)
  clear hK K
  (try simp only [Act.put]); (try simp only [List.setIfInBounds_toArray]); (try simp only [List.set_cons_zero, List.set_cons_succ])
  refine wpAnyH_take (i := 9) (oi := _) (v := ?_) rfl (by kernel_rfl) (by kernel_rfl) (by kernel_rfl) (fun _ _ _ h => h) (Or.inl ⟨by rfl, ?_⟩) (by assumption) ?_
  rotate_left
  · (intro w0 hSw; (try dsimp only at hSw); (try simp only [List.getElem_toArray, List.getElem_cons_zero, List.getElem_cons_succ]); go_simp; try (with_reducible rfl))
  try simp only [Act.put, List.getElem_toArray, List.getElem_cons_zero, List.getElem_cons_succ, List.setIfInBounds_toArray, List.set_cons_zero, List.set_cons_succ]
  refine wpAnyH_done (by kernel_rfl) ?_ _
  refine NoPanic.normal ?_
  have HZ0' : Hid (Blk v1 h0 32 zeroA) := (HZ0.out.drewN 1).below HB5.out
  have HZ1' : Hid (Blk v1 h1 40 #[.int .i64 0, .int .i64 0]) := (HZ1.out.drewN 1).below HB5.out
  have HZ2' : Hid (Blk v1 h2 40 #[.int .i64 18, .int .i64 0]) := (HZ2.out.drewN 1).below HB5.out
  clear HZ0 HZ1 HZ2 HBX HB5 cv5 hHeld hHeld1 hHeld2 KVS KVL SUMC
  have HZ0 := HZ0'
  have HZ1 := HZ1'
  have HZ2 := HZ2'
  have HBX := HBV1
  clear HZ0' HZ1' HZ2' HBV1
  go_upto_region 9 with fail
  obtain ⟨sb, esb⟩ : ∃ x, x = v1.heap.size := ⟨_, rfl⟩
  obtain ⟨sx, esx⟩ : ∃ x, x = v1.heap.size + 1 := ⟨_, rfl⟩
  generalize hU : World.alloc (World.alloc v1 _) _ = U0
  have HBU0 : Hid (Below v1.heap.size v1 U0) := by rw [← hU]; exact ((Below.refl _ _).alloc (Nat.le_refl _) _).alloc (by simp) _
  have HSB0 : Hid (Blk U0 sb 48 (stQ (some ⟨ab, ao, none⟩) bd c (32 + 0))) := by
    rw [← hU, esb]
    have h := (Blk.new v1 48 (strA (.slice (some ⟨ab, ao, none⟩) n c) 0 32 false)).below ((Below.refl _ _).alloc (Nat.le_refl _) (.cells #[.int .i64 0, .int .i64 0, .int .i64 0, .int .i64 0, .int .i64 0] 27))
    unfold stQ
    rw [HBDL.out, Nat.min_eq_left (by omega), decide_eq_false (by omega)]
    exact h
  have HSX0 : Hid (Blk U0 sx 27 #[.int .i64 0, .int .i64 0, .int .i64 0, .int .i64 0, .int .i64 0]) := by
    rw [← hU, esx]
    have h := Blk.new (v1.alloc (.cells (strA (.slice (some ⟨ab, ao, none⟩) n c) 0 32 false) 48)) 27 #[.int .i64 0, .int .i64 0, .int .i64 0, .int .i64 0, .int .i64 0]
    rw [show (v1.alloc (.cells (strA (.slice (some ⟨ab, ao, none⟩) n c) 0 32 false) 48)).heap.size = v1.heap.size + 1 by simp] at h
    exact h
  rw [← esx, ← esb]
  have hsbv : v1.heap.size ≤ sb := by omega
  have hsxv : v1.heap.size ≤ sx := by omega
  have hxs : sx ≠ sb := by omega
  clear hU esb esx
  have TK0 := hidden (TAKC.out U0 0 sb HSB0.out (HBX.out.trans (HBU0.out.mono HBX.out.size)) (Nat.le_trans HBX.out.size hsbv) (by omega))
  obtain ⟨z0, HZE0⟩ : ∃ z, Hid (z = numN bd (32 + 0) 16) := ⟨_, rfl⟩
  rw [← HZE0.out] at TK0
  go_wp2_with fail
  go_at_call 21
  refine TK0.out.mono ?_
  rintro e T0 ⟨rfl, hb, hk⟩
  have HBT0 : Hid (Below v1.heap.size v1 T0) := HBU0.out.trans (hb.below hsbv HBU0.out.size)
  have HXT0 := hidden (hb.blk HSX0.out hxs)
  have HST0 := hidden hk
  have cx0 : T0.cell? ⟨sx, 0, none⟩ = some (.int .i64 0) := HXT0.out.cell rfl
  have fx0 := HXT0.out.frozen 0
  have HSX1 : Hid (Blk (T0.setCell ⟨sx, 0, none⟩ (.int .i64 (z0 : Int))) sx 27 #[.int .i64 ((z0 : Nat) : Int), .int .i64 0, .int .i64 0, .int .i64 0, .int .i64 0]) := HXT0.out.set 0 _
  have HSB1 : Hid (Blk (T0.setCell ⟨sx, 0, none⟩ (.int .i64 (z0 : Int))) sb 48 (stQ (some ⟨ab, ao, none⟩) bd c (32 + 16))) := (But.set sx 0 _ _).blk HST0.out (Ne.symm hxs)
  have HBU1 : Hid (Below v1.heap.size v1 (T0.setCell ⟨sx, 0, none⟩ (.int .i64 (z0 : Int)))) := HBT0.out.trans ((But.set sx 0 _ _).below hsxv HBT0.out.size)
  clear hb hk TK0 HBT0 HXT0 HST0 HBU0 HSB0 HSX0
  go_wp2_with fail
  generalize T0.setCell ⟨sx, 0, none⟩ (.int .i64 (z0 : Int)) = U1 at *
  clear cx0 fx0
  have TK1 := hidden (TAKC.out U1 16 sb HSB1.out (HBX.out.trans (HBU1.out.mono HBX.out.size)) (Nat.le_trans HBX.out.size hsbv) (by omega))
  obtain ⟨z1, HZE1⟩ : ∃ z, Hid (z = numN bd (32 + 16) 16) := ⟨_, rfl⟩
  rw [← HZE1.out] at TK1
  skip
  go_at_call 21
  refine TK1.out.mono ?_
  rintro e T1 ⟨rfl, hb, hk⟩
  have HBT1 : Hid (Below v1.heap.size v1 T1) := HBU1.out.trans (hb.below hsbv HBU1.out.size)
  have HXT1 := hidden (hb.blk HSX1.out hxs)
  have HST1 := hidden hk
  have cx1 : T1.cell? ⟨sx, 1, none⟩ = some (.int .i64 0) := HXT1.out.cell rfl
  have fx1 := HXT1.out.frozen 1
  have HSX2 : Hid (Blk (T1.setCell ⟨sx, 1, none⟩ (.int .i64 (z1 : Int))) sx 27 #[.int .i64 ((z0 : Nat) : Int), .int .i64 ((z1 : Nat) : Int), .int .i64 0, .int .i64 0, .int .i64 0]) := HXT1.out.set 1 _
  have HSB2 : Hid (Blk (T1.setCell ⟨sx, 1, none⟩ (.int .i64 (z1 : Int))) sb 48 (stQ (some ⟨ab, ao, none⟩) bd c (32 + 32))) := (But.set sx 1 _ _).blk HST1.out (Ne.symm hxs)
  have HBU2 : Hid (Below v1.heap.size v1 (T1.setCell ⟨sx, 1, none⟩ (.int .i64 (z1 : Int)))) := HBT1.out.trans ((But.set sx 1 _ _).below hsxv HBT1.out.size)
  clear hb hk TK1 HBT1 HXT1 HST1 HBU1 HSB1 HSX1
  go_wp2_with fail
  generalize T1.setCell ⟨sx, 1, none⟩ (.int .i64 (z1 : Int)) = U2 at *
  clear cx1 fx1
  have TK2 := hidden (TAKC.out U2 32 sb HSB2.out (HBX.out.trans (HBU2.out.mono HBX.out.size)) (Nat.le_trans HBX.out.size hsbv) (by omega))
  obtain ⟨z2, HZE2⟩ : ∃ z, Hid (z = numN bd (32 + 32) 16) := ⟨_, rfl⟩
  rw [← HZE2.out] at TK2
  skip
  go_at_call 21
  refine TK2.out.mono ?_
  rintro e T2 ⟨rfl, hb, hk⟩
  have HBT2 : Hid (Below v1.heap.size v1 T2) := HBU2.out.trans (hb.below hsbv HBU2.out.size)
  have HXT2 := hidden (hb.blk HSX2.out hxs)
  have HST2 := hidden hk
  have cx2 : T2.cell? ⟨sx, 2, none⟩ = some (.int .i64 0) := HXT2.out.cell rfl
  have fx2 := HXT2.out.frozen 2
  have HSX3 : Hid (Blk (T2.setCell ⟨sx, 2, none⟩ (.int .i64 (z2 : Int))) sx 27 #[.int .i64 ((z0 : Nat) : Int), .int .i64 ((z1 : Nat) : Int), .int .i64 ((z2 : Nat) : Int), .int .i64 0, .int .i64 0]) := HXT2.out.set 2 _
  have HSB3 : Hid (Blk (T2.setCell ⟨sx, 2, none⟩ (.int .i64 (z2 : Int))) sb 48 (stQ (some ⟨ab, ao, none⟩) bd c (32 + 48))) := (But.set sx 2 _ _).blk HST2.out (Ne.symm hxs)
  have HBU3 : Hid (Below v1.heap.size v1 (T2.setCell ⟨sx, 2, none⟩ (.int .i64 (z2 : Int)))) := HBT2.out.trans ((But.set sx 2 _ _).below hsxv HBT2.out.size)
  clear hb hk TK2 HBT2 HXT2 HST2 HBU2 HSB2 HSX2
  go_wp2_with fail
  generalize T2.setCell ⟨sx, 2, none⟩ (.int .i64 (z2 : Int)) = U3 at *
  clear cx2 fx2
  have TK3 := hidden (TAKC.out U3 48 sb HSB3.out (HBX.out.trans (HBU3.out.mono HBX.out.size)) (Nat.le_trans HBX.out.size hsbv) (by omega))
  obtain ⟨z3, HZE3⟩ : ∃ z, Hid (z = numN bd (32 + 48) 16) := ⟨_, rfl⟩
  rw [← HZE3.out] at TK3
  skip
  go_at_call 21
  refine TK3.out.mono ?_
  rintro e T3 ⟨rfl, hb, hk⟩
  have HBT3 : Hid (Below v1.heap.size v1 T3) := HBU3.out.trans (hb.below hsbv HBU3.out.size)
  have HXT3 := hidden (hb.blk HSX3.out hxs)
  have HST3 := hidden hk
  have cx3 : T3.cell? ⟨sx, 3, none⟩ = some (.int .i64 0) := HXT3.out.cell rfl
  have fx3 := HXT3.out.frozen 3
  have HSX4 : Hid (Blk (T3.setCell ⟨sx, 3, none⟩ (.int .i64 (z3 : Int))) sx 27 #[.int .i64 ((z0 : Nat) : Int), .int .i64 ((z1 : Nat) : Int), .int .i64 ((z2 : Nat) : Int), .int .i64 ((z3 : Nat) : Int), .int .i64 0]) := HXT3.out.set 3 _
  have HSB4 : Hid (Blk (T3.setCell ⟨sx, 3, none⟩ (.int .i64 (z3 : Int))) sb 48 (stQ (some ⟨ab, ao, none⟩) bd c (32 + 64))) := (But.set sx 3 _ _).blk HST3.out (Ne.symm hxs)
  have HBU4 : Hid (Below v1.heap.size v1 (T3.setCell ⟨sx, 3, none⟩ (.int .i64 (z3 : Int)))) := HBT3.out.trans ((But.set sx 3 _ _).below hsxv HBT3.out.size)
  clear hb hk TK3 HBT3 HXT3 HST3 HBU3 HSB3 HSX3
  go_wp2_with fail
  generalize T3.setCell ⟨sx, 3, none⟩ (.int .i64 (z3 : Int)) = U4 at *
  clear cx3 fx3
  have TK4 := hidden (TAKC.out U4 64 sb HSB4.out (HBX.out.trans (HBU4.out.mono HBX.out.size)) (Nat.le_trans HBX.out.size hsbv) (by omega))
  obtain ⟨z4, HZE4⟩ : ∃ z, Hid (z = numN bd (32 + 64) 16) := ⟨_, rfl⟩
  rw [← HZE4.out] at TK4
  skip
  go_at_call 21
  refine TK4.out.mono ?_
  rintro e T4 ⟨rfl, hb, hk⟩
  have HBT4 : Hid (Below v1.heap.size v1 T4) := HBU4.out.trans (hb.below hsbv HBU4.out.size)
  have HXT4 := hidden (hb.blk HSX4.out hxs)
  have HST4 := hidden hk
  have cx4 : T4.cell? ⟨sx, 4, none⟩ = some (.int .i64 0) := HXT4.out.cell rfl
  have fx4 := HXT4.out.frozen 4
  have HSX5 : Hid (Blk (T4.setCell ⟨sx, 4, none⟩ (.int .i64 (z4 : Int))) sx 27 #[.int .i64 ((z0 : Nat) : Int), .int .i64 ((z1 : Nat) : Int), .int .i64 ((z2 : Nat) : Int), .int .i64 ((z3 : Nat) : Int), .int .i64 ((z4 : Nat) : Int)]) := HXT4.out.set 4 _
  have HSB5 : Hid (Blk (T4.setCell ⟨sx, 4, none⟩ (.int .i64 (z4 : Int))) sb 48 (stQ (some ⟨ab, ao, none⟩) bd c (32 + 80))) := (But.set sx 4 _ _).blk HST4.out (Ne.symm hxs)
  have HBU5 : Hid (Below v1.heap.size v1 (T4.setCell ⟨sx, 4, none⟩ (.int .i64 (z4 : Int)))) := HBT4.out.trans ((But.set sx 4 _ _).below hsxv HBT4.out.size)
  clear hb hk TK4 HBT4 HXT4 HST4 HBU4 HSB4 HSX4
  go_upto_region 14 with fail
  generalize T4.setCell ⟨sx, 4, none⟩ (.int .i64 (z4 : Int)) = U5 at *
  clear cx4 fx4
  have HZS : Hid ((⟨(z0 : Int), (z1 : Int), (z2 : Int), (z3 : Int), (z4 : Int)⟩ : ShD) = shS (numN bt)) := by
    show _ = _
    unfold shS
    rw [HZE0.out, HZE1.out, HZE2.out, HZE3.out, HZE4.out, HNN.out, HNN.out, HNN.out, HNN.out, HNN.out]
  have HZ0 : Hid (Blk U5 h0 32 zeroA) := HZ0.out.below HBU5.out
  have HZ1 : Hid (Blk U5 h1 40 #[.int .i64 0, .int .i64 0]) := HZ1.out.below HBU5.out
  have HZ2 : Hid (Blk U5 h2 40 #[.int .i64 18, .int .i64 0]) := HZ2.out.below HBU5.out
  have HBX' : Hid (Below w.heap.size w U5) := HBX.out.trans (HBU5.out.mono HBX.out.size)
  have SVC := hidden (shapeValid_doc U5 ⟨(z0 : Int), (z1 : Int), (z2 : Int), (z3 : Int), (z4 : Int)⟩)
  rw [HZS.out] at SVC
  rw [HSOK.out] at SVC
  unfold ShD.arr shS at SVC
  rw [← HNN.out, ← HNN.out, ← HNN.out, ← HNN.out, ← HNN.out, ← HZE0.out, ← HZE1.out, ← HZE2.out, ← HZE3.out, ← HZE4.out] at SVC
  have y0 : U5.cell? ⟨sx, 0, none⟩ = some (.int .i64 (z0 : Int)) := HSX5.out.cell rfl
  have y1 : U5.cell? ⟨sx, 1, none⟩ = some (.int .i64 (z1 : Int)) := HSX5.out.cell rfl
  have y2 : U5.cell? ⟨sx, 2, none⟩ = some (.int .i64 (z2 : Int)) := HSX5.out.cell rfl
  have y3 : U5.cell? ⟨sx, 3, none⟩ = some (.int .i64 (z3 : Int)) := HSX5.out.cell rfl
  have y4 : U5.cell? ⟨sx, 4, none⟩ = some (.int .i64 (z4 : Int)) := HSX5.out.cell rfl
  go_wp2_with fail
  go_at_call 22
  refine SVC.out.mono ?_
  rintro e v5 ⟨rfl, hb⟩
  have HBV5 : Hid (Below U5.heap.size U5 v5) := hb
  clear hb SVC y0 y1 y2 y3 y4 TAKC
  have HZ0' : Hid (Blk v5 h0 32 zeroA) := HZ0.out.below HBV5.out
  have HZ1' : Hid (Blk v5 h1 40 #[.int .i64 0, .int .i64 0]) := HZ1.out.below HBV5.out
  have HZ2' : Hid (Blk v5 h2 40 #[.int .i64 18, .int .i64 0]) := HZ2.out.below HBV5.out
  have HBX5 : Hid (Below w.heap.size w v5) := HBX'.out.trans (HBV5.out.mono HBX'.out.size)
  clear HZ0 HZ1 HZ2 HBX HBX'
  have HZ0 := HZ0'
  have HZ1 := HZ1'
  have HZ2 := HZ2'
  have HBX := HBX5
  clear HZ0' HZ1' HZ2' HBX5
  go_wp2_with fail
  obtain ⟨wd, hwd⟩ : ∃ x, x = v5.drew := ⟨_, rfl⟩
  have HD0 : Hid (Blk wd h0 32 zeroA) := by rw [hwd]; exact HZ0.out.drewN 1
  have HD1 : Hid (Blk wd h1 40 #[.int .i64 0, .int .i64 0]) := by rw [hwd]; exact HZ1.out.drewN 1
  have HD2 : Hid (Blk wd h2 40 #[.int .i64 18, .int .i64 0]) := by rw [hwd]; exact HZ2.out.drewN 1
  have HBD : Hid (Below w.heap.size w wd) := by rw [hwd]; exact Below.drew HBX.out
  have HR0 : Hid (Blk (World.setCell (World.setCell (World.setCell (World.setCell (World.setCell (World.setCell (World.setCell (World.setCell wd ⟨h0, 0, none⟩ (.int .i64 0)) ⟨h0, 1, none⟩ (.int .i64 0)) ⟨h0, 2, none⟩ (.int .i64 0)) ⟨h0, 3, none⟩ (.int .i64 0)) ⟨h0, 4, none⟩ (.int .i64 0)) ⟨h0, 5, none⟩ (.slice none 0 0)) ⟨h0, 6, none⟩ (.slice none 0 0)) ⟨h0, 7, none⟩ (.slice none 0 0)) h0 32 zeroA) := (Blk.set (Blk.set (Blk.set (Blk.set (Blk.set (Blk.set (Blk.set (Blk.set HD0.out 0 _) 1 _) 2 _) 3 _) 4 _) 5 _) 6 _) 7 _)
  have HA1 : Hid (Blk (World.setCell (World.setCell (World.setCell (World.setCell (World.setCell (World.setCell (World.setCell (World.setCell wd ⟨h0, 0, none⟩ (.int .i64 0)) ⟨h0, 1, none⟩ (.int .i64 0)) ⟨h0, 2, none⟩ (.int .i64 0)) ⟨h0, 3, none⟩ (.int .i64 0)) ⟨h0, 4, none⟩ (.int .i64 0)) ⟨h0, 5, none⟩ (.slice none 0 0)) ⟨h0, 6, none⟩ (.slice none 0 0)) ⟨h0, 7, none⟩ (.slice none 0 0)) h1 40 #[.int .i64 0, .int .i64 0]) := (But.blk (But.set h0 7 _ _) (But.blk (But.set h0 6 _ _) (But.blk (But.set h0 5 _ _) (But.blk (But.set h0 4 _ _) (But.blk (But.set h0 3 _ _) (But.blk (But.set h0 2 _ _) (But.blk (But.set h0 1 _ _) (But.blk (But.set h0 0 _ _) HD1.out (by omega)) (by omega)) (by omega)) (by omega)) (by omega)) (by omega)) (by omega)) (by omega))
  have HA2 : Hid (Blk (World.setCell (World.setCell (World.setCell (World.setCell (World.setCell (World.setCell (World.setCell (World.setCell wd ⟨h0, 0, none⟩ (.int .i64 0)) ⟨h0, 1, none⟩ (.int .i64 0)) ⟨h0, 2, none⟩ (.int .i64 0)) ⟨h0, 3, none⟩ (.int .i64 0)) ⟨h0, 4, none⟩ (.int .i64 0)) ⟨h0, 5, none⟩ (.slice none 0 0)) ⟨h0, 6, none⟩ (.slice none 0 0)) ⟨h0, 7, none⟩ (.slice none 0 0)) h2 40 #[.int .i64 18, .int .i64 0]) := (But.blk (But.set h0 7 _ _) (But.blk (But.set h0 6 _ _) (But.blk (But.set h0 5 _ _) (But.blk (But.set h0 4 _ _) (But.blk (But.set h0 3 _ _) (But.blk (But.set h0 2 _ _) (But.blk (But.set h0 1 _ _) (But.blk (But.set h0 0 _ _) HD2.out (by omega)) (by omega)) (by omega)) (by omega)) (by omega)) (by omega)) (by omega)) (by omega))
  have HK0 : Hid (Kp [h0, h1] wd (World.setCell (World.setCell (World.setCell (World.setCell (World.setCell (World.setCell (World.setCell (World.setCell wd ⟨h0, 0, none⟩ (.int .i64 0)) ⟨h0, 1, none⟩ (.int .i64 0)) ⟨h0, 2, none⟩ (.int .i64 0)) ⟨h0, 3, none⟩ (.int .i64 0)) ⟨h0, 4, none⟩ (.int .i64 0)) ⟨h0, 5, none⟩ (.slice none 0 0)) ⟨h0, 6, none⟩ (.slice none 0 0)) ⟨h0, 7, none⟩ (.slice none 0 0))) := (((((((((Kp.refl [h0, h1] wd).trans (Kp.set _ _ 0 _ _ (by simp))).trans (Kp.set _ _ 1 _ _ (by simp))).trans (Kp.set _ _ 2 _ _ (by simp))).trans (Kp.set _ _ 3 _ _ (by simp))).trans (Kp.set _ _ 4 _ _ (by simp))).trans (Kp.set _ _ 5 _ _ (by simp))).trans (Kp.set _ _ 6 _ _ (by simp))).trans (Kp.set _ _ 7 _ _ (by simp)))
  have r0 : wd.cell? ⟨h0, 0, none⟩ = some (.int .i64 0) := HD0.out.cell rfl
  have rf0 := HD0.out.frozen 0
  have r1 : wd.cell? ⟨h0, 1, none⟩ = some (.int .i64 0) := HD0.out.cell rfl
  have rf1 := HD0.out.frozen 1
  have r2 : wd.cell? ⟨h0, 2, none⟩ = some (.int .i64 0) := HD0.out.cell rfl
  have rf2 := HD0.out.frozen 2
  have r3 : wd.cell? ⟨h0, 3, none⟩ = some (.int .i64 0) := HD0.out.cell rfl
  have rf3 := HD0.out.frozen 3
  have r4 : wd.cell? ⟨h0, 4, none⟩ = some (.int .i64 0) := HD0.out.cell rfl
  have rf4 := HD0.out.frozen 4
  have r5 : wd.cell? ⟨h0, 5, none⟩ = some (.slice none 0 0) := HD0.out.cell rfl
  have rf5 := HD0.out.frozen 5
  have r6 : wd.cell? ⟨h0, 6, none⟩ = some (.slice none 0 0) := HD0.out.cell rfl
  have rf6 := HD0.out.frozen 6
  have r7 : wd.cell? ⟨h0, 7, none⟩ = some (.slice none 0 0) := HD0.out.cell rfl
  have rf7 := HD0.out.frozen 7
  have KS : Hid (∀ w', Blk w' h2 40 #[.int .i64 18, .int .i64 0] → (fun w' => w'.cell? ⟨h2, 0, none⟩ = some (.int .i64 18) ∧ w'.cell? ⟨h2, 1, none⟩ = some (.int .i64 0)) w') := fun w' hw' => ⟨hw'.cell rfl, hw'.cell rfl⟩
  refine wp_region_noPanic ?_
  refine wp_region_held_drew (S := (fun w' => w'.cell? ⟨h2, 0, none⟩ = some (.int .i64 18) ∧ w'.cell? ⟨h2, 1, none⟩ = some (.int .i64 0))) (by kernel_rfl) (by exact KS.out _ (by rw [← hwd]; exact HD2.out)) (fun hHeld => ?_)
  rw [← hwd] at hHeld ⊢
  clear hwd
  refine wpAnyH_take (i := 0) (oi := _) (v := ?_) rfl (by kernel_rfl) (by kernel_rfl) (by kernel_rfl) (fun _ _ _ h => h) (Or.inl ⟨by rfl, ?_⟩) (by assumption) ?_
  rotate_left
  · (intro w0 hSw; (try dsimp only at hSw); (try simp only [List.getElem_toArray, List.getElem_cons_zero]); go_simp; try (with_reducible rfl))
  try simp only [Act.put, List.getElem_toArray, List.getElem_cons_zero, List.setIfInBounds_toArray, List.set_cons_zero, List.set_cons_succ]
  refine wpAnyH_take (i := 1) (oi := _) (v := ?_) rfl (by kernel_rfl) (by kernel_rfl) (by kernel_rfl) (fun _ _ _ h => h) (Or.inl ⟨by rfl, ?_⟩) (by assumption) ?_
  rotate_left
  · (intro w0 hSw; (try dsimp only at hSw); (try simp only [List.getElem_toArray, List.getElem_cons_zero, List.getElem_cons_succ]); go_simp; try (with_reducible rfl))
  try simp only [Act.put, List.getElem_toArray, List.getElem_cons_zero, List.getElem_cons_succ, List.setIfInBounds_toArray, List.set_cons_zero, List.set_cons_succ]
  refine wpAnyH_ready (rs := [2]) (by kernel_rfl) (by simp) ?_
  refine AllReadyH.cons (o := _) rfl (fun K hK => ?_) AllReadyH.nil
  (try simp only [List.getElem_toArray, List.getElem_cons_zero, List.getElem_cons_succ])
  go_simp
  refine hK.out _ _ (by exact KS.out _ HA2.out) (fun hHeld1 => ?_)
  clear hK K
  clear r0 rf0 r1 rf1 r2 rf2 r3 rf3 r4 rf4 r5 rf5 r6 rf6 r7 rf7 hHeld
  generalize (World.setCell (World.setCell (World.setCell (World.setCell (World.setCell (World.setCell (World.setCell (World.setCell wd ⟨h0, 0, none⟩ (.int .i64 0)) ⟨h0, 1, none⟩ (.int .i64 0)) ⟨h0, 2, none⟩ (.int .i64 0)) ⟨h0, 3, none⟩ (.int .i64 0)) ⟨h0, 4, none⟩ (.int .i64 0)) ⟨h0, 5, none⟩ (.slice none 0 0)) ⟨h0, 6, none⟩ (.slice none 0 0)) ⟨h0, 7, none⟩ (.slice none 0 0)) = Y at *
  clear HD0 HD1 HD2
  have HR1 : Hid (Blk (World.setCell (World.setCell Y ⟨h1, 0, none⟩ (.int .i64 18)) ⟨h1, 1, none⟩ (.int .i64 0)) h1 40 #[.int .i64 18, .int .i64 0]) := (HA1.out.set 0 _).set 1 _
  have HR2 : Hid (Blk (World.setCell (World.setCell Y ⟨h1, 0, none⟩ (.int .i64 18)) ⟨h1, 1, none⟩ (.int .i64 0)) h0 32 zeroA) := (But.set h1 1 _ _).blk ((But.set h1 0 _ _).blk HR0.out (by omega)) (by omega)
  have HR3 : Hid (Blk (World.setCell (World.setCell Y ⟨h1, 0, none⟩ (.int .i64 18)) ⟨h1, 1, none⟩ (.int .i64 0)) h2 40 #[.int .i64 18, .int .i64 0]) := (But.set h1 1 _ _).blk ((But.set h1 0 _ _).blk HA2.out (by omega)) (by omega)
  have HK1 : Hid (Kp [h0, h1] wd (World.setCell (World.setCell Y ⟨h1, 0, none⟩ (.int .i64 18)) ⟨h1, 1, none⟩ (.int .i64 0))) := (HK0.out.trans (Kp.set _ _ _ _ _ (by simp))).trans (Kp.set _ _ _ _ _ (by simp))
  have s0 : Y.cell? ⟨h1, 0, none⟩ = some (.int .i64 0) := HA1.out.cell rfl
  have sf0 := HA1.out.frozen 0
  have s1 : Y.cell? ⟨h1, 1, none⟩ = some (.int .i64 0) := HA1.out.cell rfl
  have sf1 := HA1.out.frozen 1
  (try simp only [Act.put]); (try simp only [List.setIfInBounds_toArray]); (try simp only [List.set_cons_zero, List.set_cons_succ])
  refine wpAnyH_ready (rs := [3]) (by kernel_rfl) (by simp) ?_
  refine AllReadyH.cons (o := _) rfl (fun K hK => ?_) AllReadyH.nil
  (try simp only [List.getElem_toArray, List.getElem_cons_zero, List.getElem_cons_succ])
  go_simp
  refine hK.out _ _ (by exact KS.out _ HR3.out) (fun hHeld2 => ?_)
  clear hK K
  (try simp only [Act.put]); (try simp only [List.setIfInBounds_toArray]); (try simp only [List.set_cons_zero, List.set_cons_succ])
  refine wpAnyH_done (by kernel_rfl) ?_ _
  refine NoPanic.normal ?_
  clear s0 sf0 s1 sf1 hHeld1 hHeld2
  generalize (World.setCell (World.setCell Y ⟨h1, 0, none⟩ (.int .i64 18)) ⟨h1, 1, none⟩ (.int .i64 0)) = Z at *
  have HBZ : Hid (Below w.heap.size w Z) := HBD.out.trans (HK1.out.below (by intro g hg; simp at hg; omega) HBD.out.size)
  clear HBD HR0 HA1 HA2 HR3 HK0 HK1 KS
  have r0 : Z.cell? ⟨h0, 0, none⟩ = some (.int .i64 0) := HR2.out.cell rfl
  have r1 : Z.cell? ⟨h0, 1, none⟩ = some (.int .i64 0) := HR2.out.cell rfl
  have r2 : Z.cell? ⟨h0, 2, none⟩ = some (.int .i64 0) := HR2.out.cell rfl
  have r3 : Z.cell? ⟨h0, 3, none⟩ = some (.int .i64 0) := HR2.out.cell rfl
  have r4 : Z.cell? ⟨h0, 4, none⟩ = some (.int .i64 0) := HR2.out.cell rfl
  have r5 : Z.cell? ⟨h0, 5, none⟩ = some (.slice none 0 0) := HR2.out.cell rfl
  have r6 : Z.cell? ⟨h0, 6, none⟩ = some (.slice none 0 0) := HR2.out.cell rfl
  have r7 : Z.cell? ⟨h0, 7, none⟩ = some (.slice none 0 0) := HR2.out.cell rfl
  have s0 : Z.cell? ⟨h1, 0, none⟩ = some (.int .i64 18) := HR1.out.cell rfl
  have s1 : Z.cell? ⟨h1, 1, none⟩ = some (.int .i64 0) := HR1.out.cell rfl
  go_wp2
  refine bodyPost_ret (v := .tuple #[.agg zeroA, .agg #[.int .i64 18, .int .i64 0]]) (by unfold zeroA cfA; simp [results, Tryd.results8, go_sem, *]) rfl ?_
  exact ⟨rfl, HBZ.out⟩

end Go.Proofs.YtjbnejjjbdalaaaDoor
