import Derived.Test.YtjbnejjjbdalaaaDoorFcX
import Derived.Test.YtjbnejjjbdalaaaDoorFcF
import Derived.Test.YtjbnejjjbdalaaaDoorFbD
import Derived.Test.YtjbnejjjbdalaaaDoorFcH
set_option maxRecDepth 100000
set_option maxHeartbeats 16000000
namespace Go.Proofs.YtjbnejjjbdalaaaDoor
open Go.RowKit
theorem own_kp {gs : List Nat} {w w' : World} {B n sz : Nat} {e : TypeId} {v : Value} {xs : List Value} (h : w.ownsRow B e sz v n xs) (hk : Kp gs w w') (hne : ∀ k, v.ownBlock = some k → k ∉ gs) : w'.ownsRow B e sz v n xs := by
 refine ⟨h.1, ?_⟩
 rcases h.2 with h0 | ⟨g, cap, cur, hv, hb, hg, r⟩
 ·exact .inl h0
 ·exact .inr ⟨g, cap, cur, hv, hb, (hk.block g (Array.getElem?_eq_some_iff.1 hg).1 (hne g (by rw [hv]; rfl))).trans hg, r⟩
theorem CbAt.kp {gs : List Nat} {base : Nat} {w w' : World} {cb : Nat} {s : ShD} {v1 v2 v3 : Value} {cols : List ClD} {regs : List RgD} {outs : List Int} (h : CbAt base w cb s v1 v2 v3 cols regs outs) (hk : Kp gs w w') (hc : cb ∉ gs) (hg : ∀ g, g ∈ gs → g < base ∨ w.heap.size ≤ g) : CbAt base w' cb s v1 v2 v3 cols regs outs := by
 have hn : ∀ {e : TypeId} {n sz : Nat} {v : Value} {xs : List Value}, w.ownsRow base e sz v n xs → ∀ k, v.ownBlock = some k → k ∉ gs := fun ho k hk' hx => by
  have := ho.lt k hk'
  rcases hg k hx with h1 | h1 <;> omega
 exact ⟨h.lt, hk.blk h.box hc, own_kp h.o1 hk (hn h.o1), own_kp h.o2 hk (hn h.o2), own_kp h.o3 hk (hn h.o3), fun d hd => own_kp (h.cc d hd) hk (hn (h.cc d hd))⟩
def selA (s : Nat → Int) (b : Int) : Array Value := #[.int .i64 (s 0), .int .i64 (s 1), .int .i64 (s 2), .int .i64 (s 3), .int .i64 b]
theorem selA_get (s : Nat → Int) (b : Int) (j : Nat) (h : j < 4) : (selA s b)[j]? = some (.int .i64 (s j)) := by
 rcases (show j = 0 ∨ j = 1 ∨ j = 2 ∨ j = 3 by omega) with rfl | rfl | rfl | rfl <;> rfl
theorem selA_set (s : Nat → Int) (b x : Int) (j : Nat) (h : j < 4) : (selA s b).setIfInBounds j (.int .i64 x) = selA (fun m => if m = j then x else s m) b := by
 rcases (show j = 0 ∨ j = 1 ∨ j = 2 ∨ j = 3 by omega) with rfl | rfl | rfl | rfl <;> rfl
theorem flatC_snoc (l : List CeD) (d : CeD) : flatC (l ++ [d]) = flatC l ++ d.cells := by unfold flatC; simp
theorem clS_snoc (nm : Nat → Nat → Nat) (p k rows : Nat) : clS nm p k (rows + 1) = clS nm p k rows ++ [ceS nm (p + rows * cw k) k] := by unfold clS; rw [List.range_succ, List.map_append]; rfl
theorem Kp.trans' {gs : List Nat} {a b c : World} (h : Kp gs a b) {sb db : Nat} (k : Kp [sb, db] b c) (hd : a.heap.size ≤ db) (hs' : sb ∈ gs := by simp) : Kp gs a c :=
 ⟨k.os.trans h.os, k.tape.trans h.tape, k.output.trans h.output, Nat.le_trans h.size k.size, fun i hi hg => (k.block i (Nat.lt_of_lt_of_le hi h.size) (by
  intro hx
  simp at hx
  rcases hx with hx | hx
  ·subst hx; exact hg hs'
  ·omega)).trans (h.block i hi hg)⟩
theorem posC_mono (nw k0 k1 : Nat) {i j : Nat} (h : i ≤ j) : posC nw k0 k1 i ≤ posC nw k0 k1 j := by
 induction h with
 | refl => exact Nat.le_refl _
 | step _ ih => exact Nat.le_trans ih (Nat.le_add_right _ _)
def GoodD (w : World) (bt : List Nat) (e : Ending) (w' : World) : Prop := ∃ S N, e = .returned (.tuple #[.agg (CnS.cells S N), .agg #[.int .i64 0, .int .i64 0]]) ∧ SpecN (numN bt) N ∧ CnAt w'.heap.size w' S N ∧ Below w.heap.size w w'
def DecE (w : World) (bs bt : List Nat) (e : Ending) (w' : World) : Prop := (gOk bs = true → GoodD w bt e w') ∧ (gOk bs = false → BadD w e w')
theorem decode_rest (B : Nat) (w : World) (hBw : B ≤ w.heap.size) (a : Option Addr) (c : Nat) (bs : List Nat) (R : RowAt B w a 1 (bs.map byteC)) (hl : bs.length < 281474976710656) (hby : ∀ x, x ∈ bs → x < 256) (hc : bs.length ≤ c) (h18 : 18 ≤ bs.length) (hmk : bs.take 4 = markL) (hsm : sumB (crcV (bodyL bs)) = lastL bs) (hok : (shS (numN (bitL bs))).ok = true) :
  Calls Tryd.prog 8 #[.slice a bs.length c] w fun e w' => DecE w bs (bitL bs) e w' := by
 obtain ⟨ab, ao, ea, hlb, -⟩ := R (by intro e; rw [List.map_eq_nil_iff.1 e] at h18; simp at h18)
 subst ea
 obtain ⟨n, hn⟩ : ∃ n, bs.length = n + 4 := ⟨bs.length - 4, by omega⟩
 have hn4 : bs.length - 4 = n := by omega
 have htk : ∀ x, x ∈ bs.take 4 → x < 256 := fun x hx => hby x (List.mem_of_mem_take hx)
 have KV4 : Hid (∀ v, Below w.heap.size w v → (convert 22 9 (.slice (some ⟨ab, ao, none⟩) 4 c)).run Tryd.prog v = .ok (.string (strB (bs.take 4))) v) := fun v hv => by
  have := conv_bytes ((R.to (hv.mono hBw)).take 4) htk c
  rw [List.length_take, show min 4 bs.length = 4 by omega] at this
  exact this
 have hla : (lastL bs).length = 4 := by unfold lastL; rw [List.length_drop]; omega
 have hbod : (bodyL bs).length = n := by unfold bodyL; rw [List.length_take, hn4]; omega
 have hbb : ∀ x, x ∈ bodyL bs → x < 256 := fun x hx => hby x (List.mem_of_mem_take hx)
 have hlb2 : ∀ x, x ∈ lastL bs → x < 256 := fun x hx => hby x (List.mem_of_mem_drop hx)
 have KVL : Hid (∀ v, Below w.heap.size w v → (fun w' => (convert 22 9 (.slice (some ⟨ab, ao + n, none⟩) 4 (c - n))).run Tryd.prog w' = .ok (.string (strB (lastL bs))) w') v) := fun v hv => by
  have h := conv_bytes (show RowAt B v (some ⟨ab, ao + n, none⟩) 1 ((lastL bs).map byteC) by unfold lastL; rw [hn4]; exact (R.to (hv.mono hBw)).drop n) hlb2 (c - n)
  rw [hla] at h
  exact h
 have SUMC : Hid (∀ v, Below w.heap.size w v → Calls Tryd.prog 15 #[.slice (some ⟨ab, ao, none⟩) n c] v fun e w' => e = .returned (.slice (some ⟨v.heap.size, 0, none⟩) 4 4) ∧ w' = v.alloc (.cells (((sumB (crcV (bodyL bs))).map byV).toArray) 5)) := fun v hv => by
  have := sums_doc B v (some ⟨ab, ao, none⟩) c (bodyL bs) ((R.to (hv.mono hBw)).take _) (by omega) hbb
  rw [hbod] at this
  exact this
 have hsl : (sumB (crcV (bodyL bs))).length = 4 := rfl
 have hsb2 : ∀ x, x ∈ sumB (crcV (bodyL bs)) → x < 256 := by
  intro x hx
  simp [sumB] at hx
  omega
 have KVS : Hid (∀ v : World, (convert 22 9 (.slice (some ⟨v.heap.size, 0, none⟩) 4 4)).run Tryd.prog (v.alloc (.cells (((sumB (crcV (bodyL bs))).map byV).toArray) 5)) = .ok (.string (strB (sumB (crcV (bodyL bs))))) (v.alloc (.cells (((sumB (crcV (bodyL bs))).map byV).toArray) 5))) := fun v => by
  refine conv_bytes (B := v.heap.size + 1) (w := v.alloc (.cells (((sumB (crcV (bodyL bs))).map byV).toArray) 5)) (a := some ⟨v.heap.size, 0, none⟩) (l := sumB (crcV (bodyL bs))) ?_ hsb2 4
  exact fun _ => ⟨v.heap.size, 0, rfl, Nat.lt_succ_self _, fun i cs hi j x hx => by
   rw [List.getElem?_map] at hi
   cases hq : (sumB (crcV (bodyL bs)))[i]? with
   | none => rw [hq] at hi; cases hi
   | some y =>
    rw [hq] at hi
    have ecs : byteC y = cs := by simpa using hi
    subst ecs
    have hj : j = 0 := by
     rcases j with _ | j
     ·rfl
     ·simp [byteC] at hx
    subst hj
    have ex : byV y = x := by simpa [byteC, byV] using hx
    subst ex
    refine (Blk.new v 5 _).cell ?_
    simp [hq]⟩
 have hmk2 : ((strB (bs.take 4)).toList == [71, 87, 66, 49]) = true := by rw [str_mark _ htk, decide_eq_true hmk]
 have hss2 : ((strB (sumB (crcV (bodyL bs)))).toList == (strB (lastL bs)).toList) = decide (sumB (crcV (bodyL bs)) = lastL bs) := strB_eq hsb2 hlb2
 have hbt4 : bodyL bs = markL ++ bitL bs := by
  unfold bitL
  rw [← hmk]
  have : (bodyL bs).take 4 = bs.take 4 := by unfold bodyL; rw [List.take_take, Nat.min_eq_left (by omega)]
  rw [← this, List.take_append_drop]
 obtain ⟨bd, hbd⟩ : ∃ b, b = bodyL bs := ⟨_, rfl⟩
 obtain ⟨bt, hbt⟩ : ∃ b, b = bitL bs := ⟨_, rfl⟩
 have HBDL : Hid (bd.length = n) := by rw [hbd]; exact hbod
 have HNN : Hid (∀ p k, numN bd (32 + p) k = numN bt p k) := fun p k => by rw [hbd, hbt, hbt4]; exact numN_app markL _ rfl p k
 have TAKC : Hid (∀ (v : World) (p sb : Nat), Blk v sb 48 (stQ (some ⟨ab, ao, none⟩) bd c (32 + p)) → Below w.heap.size w v → w.heap.size ≤ sb → 32 + p + 16 ≤ 8 * n → Calls Tryd.prog 21 #[.pointer (some ⟨sb, 0, none⟩), .int .i64 16] v fun e w' => e = .returned (.int .i64 ((numN bd (32 + p) 16 : Nat) : Int)) ∧ But sb v w' ∧ Blk w' sb 48 (stQ (some ⟨ab, ao, none⟩) bd c (32 + (p + 16)))) := fun v p sb h1 h2 h3 h4 => by
  have := take_doc B v sb (Nat.le_trans hBw h3) (some ⟨ab, ao, none⟩) c bd (32 + p) 16 h1 (by rw [hbd]; exact (R.to (h2.mono hBw)).take _) (by rw [hbd, hbod]; omega) (by rw [hbd]; exact hbb) (by omega)
  unfold takeV at this
  rw [if_pos (by rw [hbd, hbod]; omega), Nat.add_assoc] at this
  exact this
 have hn14 : 14 ≤ n := by omega
 have hss3 : ((strB (sumB (crcV (bodyL bs)))).toList == (strB (lastL bs)).toList) = true := by rw [hss2, decide_eq_true hsm]
 rw [← hbt] at hok
 have HSOK := hidden hok
 have TAKR : Hid (∀ (v : World) (P k sb : Nat), Blk v sb 48 (stQ (some ⟨ab, ao, none⟩) bd c P) → Below w.heap.size w v → w.heap.size ≤ sb → k ≤ 16 → Calls Tryd.prog 21 #[.pointer (some ⟨sb, 0, none⟩), .int .i64 (k : Int)] v fun e w' => e = .returned (.int .i64 ((takeV bd P k : Nat) : Int)) ∧ But sb v w' ∧ Blk w' sb 48 (stQ (some ⟨ab, ao, none⟩) bd c (P + k))) := fun v P k sb h1 h2 h3 h4 =>
  take_doc B v sb (Nat.le_trans hBw h3) (some ⟨ab, ao, none⟩) c bd P k h1 (by rw [hbd]; exact (R.to (h2.mono hBw)).take _) (by rw [hbd, hbod]; omega) (by rw [hbd]; exact hbb) h4
 have HGOK : Hid (gOk bs = (!endBad bt (endPS (numN bt)) (!selsOk (numN bt)))) := by
  show _ = _
  unfold gOk headOk
  rw [← hbt, decide_eq_true (show 8 ≤ bs.length by omega), decide_eq_true hmk, decide_eq_true hsm, hok]
  simp
 have HBTL : Hid (n = bt.length + 4) := by
  have h := congrArg List.length hbt4
  rw [hbod, List.length_append] at h
  show n = _
  rw [hbt, h]
  show 4 + _ = _
  omega
 have HBSE : Hid (bs = bd ++ lastL bs) := by show _ = _; rw [hbd]; unfold bodyL lastL; rw [List.take_append_drop]
 have HCRC : Hid (sumB (crcV bd) = lastL bs) := by show _ = _; rw [hbd]; exact hsm
 have HBDB : Hid (∀ x, x ∈ bd → x < 256) := by rw [hbd]; exact hbb
 have HLBB := hidden hlb2
 have HBDM : Hid (bd = markL ++ bt) := by show _ = _; rw [hbd, hbt]; exact hbt4
 have KVB : Hid (∀ v, Below w.heap.size w v → (convert 22 9 (.slice (some ⟨ab, ao, none⟩) (n + 4) c)).run Tryd.prog v = .ok (.string (strB bs)) v) := fun v hv => by
  have h := conv_bytes (R.to (hv.mono hBw)) hby c
  rw [hn] at h
  exact h
 have HBBY := hidden hby
 rw [← hbt]
 clear hss2 hok
 have hlI : ¬ (bs.length : Int) < 18 := by omega
 rw [hn] at hlI hc hl ⊢
 have ew : IntKind.i64.wrap (n : Int) = (n : Int) := wrapI _ (by omega) (by omega)
 have hcI : (n : Int) + 4 ≤ (c : Int) := by omega
 have h4c : (4 : Int) ≤ (c : Int) := by omega
 have hnc : (n : Int) ≤ (c : Int) := by omega
 have hnn : (n : Int) ≤ (n : Int) + 4 := by omega
 have hcn : ¬ (c = n) := by omega
 have l2 : decide ((n : Int) < 4) = false := decide_eq_false (by omega)
 clear R hby hc htk hmk h18 hlb hn hn4 hla hbod hbb hlb2 hsl hsb2 hsm hbd hbt hbt4
 generalize strB (bs.take 4) = sm at *
 generalize strB (sumB (crcV (bodyL bs))) = ss at *
 generalize strB (lastL bs) = sl at *
 obtain ⟨nm, HNM⟩ : ∃ nm, Hid (nm = numN bt) := ⟨_, rfl⟩
 go_enter Tryd.func8, Tryd.ntmps8
 go_upto_region 2 with fail
 obtain ⟨h0, e0⟩ : ∃ x, x = w.heap.size := ⟨_, rfl⟩
 obtain ⟨h1, e1⟩ : ∃ x, x = w.heap.size + 1 := ⟨_, rfl⟩
 obtain ⟨h2, e2⟩ : ∃ x, x = w.heap.size + 1 + 1 := ⟨_, rfl⟩
 generalize hX : World.alloc (World.alloc (World.alloc w _) _) _ = X
 have HBX : Hid (Below w.heap.size w X) := by rw [← hX]; exact (((Below.refl _ _).alloc (Nat.le_refl _) _).alloc (by simp) _).alloc (by simp; omega) _
 have HZ0 : Hid (Blk X h0 32 zeroA) := by
  rw [← hX, e0]
  exact ((Blk.new w 32 zeroA).below ((Below.refl _ _).alloc (Nat.le_refl _) _)).below ((Below.refl _ _).alloc (Nat.le_refl _) _)
 have HZ1 : Hid (Blk X h1 40 #[.int .i64 0, .int .i64 0]) := by
  rw [← hX, e1]
  have h := Blk.new (w.alloc (.cells zeroA 32)) 40 #[.int .i64 0, .int .i64 0]
  rw [show (w.alloc (.cells zeroA 32)).heap.size = w.heap.size + 1 by simp] at h
  exact h.below ((Below.refl _ _).alloc (Nat.le_refl _) _)
 have HZ2 : Hid (Blk X h2 40 #[.int .i64 18, .int .i64 0]) := by
  rw [← hX, e2]
  have h := Blk.new ((w.alloc (.cells zeroA 32)).alloc (.cells #[.int .i64 0, .int .i64 0] 40)) 40 #[.int .i64 18, .int .i64 0]
  rw [show ((w.alloc (.cells zeroA 32)).alloc (.cells #[.int .i64 0, .int .i64 0] 40)).heap.size = w.heap.size + 1 + 1 by simp] at h
  exact h
 rw [← e2, ← e1, ← e0]
 have hh01 : h0 ≠ h1 ∧ h0 ≠ h2 ∧ h1 ≠ h2 ∧ w.heap.size ≤ h0 ∧ w.heap.size ≤ h1 ∧ w.heap.size ≤ h2 := by omega
 obtain ⟨n01, n02, n12, g0, g1, g2⟩ := hh01
 clear hX e0 e1 e2
 have cv4 := KV4.out X HBX.out
 go_wp2_with fail
 clear cv4 KV4
 refine wp_region_noPanic ?_
 refine wp_region_held_drew (S := (fun w' => (convert 22 9 (.slice (some ⟨ab, ao + n, none⟩) 4 (c - n))).run Tryd.prog w' = .ok (.string sl) w')) (by kernel_rfl) (by exact KVL.out _ (Below.drew HBX.out)) (fun hHeld => ?_)
 refine tk 0 ?_
 refine tk 3 ?_
 refine tk 4 ?_
 refine tk 5 ?_
 refine tk 6 ?_
 refine tk 7 ?_
 refine tk 8 ?_
 refine wpAnyH_ready (rs := [1]) (by kernel_rfl) (by simp) ?_
 refine AllReadyH.cons (o := _) rfl (fun K hK => ?_) AllReadyH.nil
 (try simp only [gA, gB, gC])
 go_simp
 go_at_call 15
 refine (SUMC.out _ (Below.drew HBX.out)).mono ?_
 rintro e v1 ⟨rfl, hv1⟩
 have HB5 : Hid (Below X.drew.heap.size X.drew v1) := by rw [hv1]; exact (Below.refl _ _).alloc (Nat.le_refl _) _
 have HBV1 : Hid (Below w.heap.size w v1) := (Below.drew HBX.out).trans (HB5.out.mono HBX.out.size)
 have cv5 : (convert 22 9 (.slice (some ⟨X.heap.size, 0, none⟩) 4 4)).run Tryd.prog v1 = .ok (.string ss) v1 := by rw [hv1]; exact KVS.out X.drew
 clear hv1
 go_wp2_with fail
 refine hK.out _ _ (by exact KVL.out _ HBV1.out) (fun hHeld1 => ?_)
 clear hK K
 (try simp only [Act.put]); (try simp only [sA]); (try simp only [sB, sC])
 refine wpAnyH_ready (rs := [2]) (by kernel_rfl) (by simp) ?_
 refine AllReadyH.cons (o := _) rfl (fun K hK => ?_) AllReadyH.nil
 (try simp only [gA, gB, gC])
 go_simp
 refine hK.out _ _ (by exact KVL.out _ HBV1.out) (fun hHeld2 => ?_)
 clear hK K
 (try simp only [Act.put]); (try simp only [sA]); (try simp only [sB, sC])
 refine tk 9 ?_
 refine wpAnyH_done (by kernel_rfl) ?_ _
 refine NoPanic.normal ?_
 have HZ0' : Hid (Blk v1 h0 32 zeroA) := (HZ0.out.drewN 1).below HB5.out
 have HZ1' : Hid (Blk v1 h1 40 #[.int .i64 0, .int .i64 0]) := (HZ1.out.drewN 1).below HB5.out
 have HZ2' : Hid (Blk v1 h2 40 #[.int .i64 18, .int .i64 0]) := (HZ2.out.drewN 1).below HB5.out
 clear HZ0 HZ1 HZ2 HBX HB5 cv5 hHeld hHeld1 hHeld2 KVS KVL SUMC
 have HZ0 := HZ0'
 have HZ1 := HZ1'
 have HZ2 := HZ2'
 have HBX := HBV1
 clear HZ0' HZ1' HZ2' HBV1
 go_upto_region 9 with fail
 obtain ⟨sb, esb⟩ : ∃ x, x = v1.heap.size := ⟨_, rfl⟩
 obtain ⟨sx, esx⟩ : ∃ x, x = v1.heap.size + 1 := ⟨_, rfl⟩
 generalize hU : World.alloc (World.alloc v1 _) _ = U0
 have HBU0 : Hid (Below v1.heap.size v1 U0) := by rw [← hU]; exact ((Below.refl _ _).alloc (Nat.le_refl _) _).alloc (by simp) _
 have HSB0 : Hid (Blk U0 sb 48 (stQ (some ⟨ab, ao, none⟩) bd c (32 + 0))) := by
  rw [← hU, esb]
  have h := (Blk.new v1 48 (strA (.slice (some ⟨ab, ao, none⟩) n c) 0 32 false)).below ((Below.refl _ _).alloc (Nat.le_refl _) (.cells #[.int .i64 0, .int .i64 0, .int .i64 0, .int .i64 0, .int .i64 0] 27))
  unfold stQ
  rw [HBDL.out, Nat.min_eq_left (by omega), decide_eq_false (by omega)]
  exact h
 have HSX0 : Hid (Blk U0 sx 27 #[.int .i64 0, .int .i64 0, .int .i64 0, .int .i64 0, .int .i64 0]) := by
  rw [← hU, esx]
  have h := Blk.new (v1.alloc (.cells (strA (.slice (some ⟨ab, ao, none⟩) n c) 0 32 false) 48)) 27 #[.int .i64 0, .int .i64 0, .int .i64 0, .int .i64 0, .int .i64 0]
  rw [show (v1.alloc (.cells (strA (.slice (some ⟨ab, ao, none⟩) n c) 0 32 false) 48)).heap.size = v1.heap.size + 1 by simp] at h
  exact h
 rw [← esx, ← esb]
 have hsbv : v1.heap.size ≤ sb := by omega
 have hsxv : v1.heap.size ≤ sx := by omega
 have hxs : sx ≠ sb := by omega
 clear hU esb esx
 have TK0 := hidden (TAKC.out U0 0 sb HSB0.out (HBX.out.trans (HBU0.out.mono HBX.out.size)) (Nat.le_trans HBX.out.size hsbv) (by omega))
 obtain ⟨z0, HZE0⟩ : ∃ z, Hid (z = numN bd (32 + 0) 16) := ⟨_, rfl⟩
 rw [← HZE0.out] at TK0
 go_wp2_with fail
 go_at_call 21
 refine TK0.out.mono ?_
 rintro e T0 ⟨rfl, hb, hk⟩
 have HBT0 : Hid (Below v1.heap.size v1 T0) := HBU0.out.trans (hb.below hsbv HBU0.out.size)
 have HXT0 := hidden (hb.blk HSX0.out hxs)
 have HST0 := hidden hk
 have cx0 : T0.cell? ⟨sx, 0, none⟩ = some (.int .i64 0) := HXT0.out.cell rfl
 have fx0 := HXT0.out.frozen 0
 have HSX1 : Hid (Blk (T0.setCell ⟨sx, 0, none⟩ (.int .i64 (z0 : Int))) sx 27 #[.int .i64 ((z0 : Nat) : Int), .int .i64 0, .int .i64 0, .int .i64 0, .int .i64 0]) := HXT0.out.set 0 _
 have HSB1 : Hid (Blk (T0.setCell ⟨sx, 0, none⟩ (.int .i64 (z0 : Int))) sb 48 (stQ (some ⟨ab, ao, none⟩) bd c (32 + 16))) := (But.set sx 0 _ _).blk HST0.out (Ne.symm hxs)
 have HBU1 : Hid (Below v1.heap.size v1 (T0.setCell ⟨sx, 0, none⟩ (.int .i64 (z0 : Int)))) := HBT0.out.trans ((But.set sx 0 _ _).below hsxv HBT0.out.size)
 clear hb hk TK0 HBT0 HXT0 HST0 HBU0 HSB0 HSX0
 go_wp2_with fail
 generalize T0.setCell ⟨sx, 0, none⟩ (.int .i64 (z0 : Int)) = U1 at *
 clear cx0 fx0
 have TK1 := hidden (TAKC.out U1 16 sb HSB1.out (HBX.out.trans (HBU1.out.mono HBX.out.size)) (Nat.le_trans HBX.out.size hsbv) (by omega))
 obtain ⟨z1, HZE1⟩ : ∃ z, Hid (z = numN bd (32 + 16) 16) := ⟨_, rfl⟩
 rw [← HZE1.out] at TK1
 skip
 go_at_call 21
 refine TK1.out.mono ?_
 rintro e T1 ⟨rfl, hb, hk⟩
 have HBT1 : Hid (Below v1.heap.size v1 T1) := HBU1.out.trans (hb.below hsbv HBU1.out.size)
 have HXT1 := hidden (hb.blk HSX1.out hxs)
 have HST1 := hidden hk
 have cx1 : T1.cell? ⟨sx, 1, none⟩ = some (.int .i64 0) := HXT1.out.cell rfl
 have fx1 := HXT1.out.frozen 1
 have HSX2 : Hid (Blk (T1.setCell ⟨sx, 1, none⟩ (.int .i64 (z1 : Int))) sx 27 #[.int .i64 ((z0 : Nat) : Int), .int .i64 ((z1 : Nat) : Int), .int .i64 0, .int .i64 0, .int .i64 0]) := HXT1.out.set 1 _
 have HSB2 : Hid (Blk (T1.setCell ⟨sx, 1, none⟩ (.int .i64 (z1 : Int))) sb 48 (stQ (some ⟨ab, ao, none⟩) bd c (32 + 32))) := (But.set sx 1 _ _).blk HST1.out (Ne.symm hxs)
 have HBU2 : Hid (Below v1.heap.size v1 (T1.setCell ⟨sx, 1, none⟩ (.int .i64 (z1 : Int)))) := HBT1.out.trans ((But.set sx 1 _ _).below hsxv HBT1.out.size)
 clear hb hk TK1 HBT1 HXT1 HST1 HBU1 HSB1 HSX1
 go_wp2_with fail
 generalize T1.setCell ⟨sx, 1, none⟩ (.int .i64 (z1 : Int)) = U2 at *
 clear cx1 fx1
 have TK2 := hidden (TAKC.out U2 32 sb HSB2.out (HBX.out.trans (HBU2.out.mono HBX.out.size)) (Nat.le_trans HBX.out.size hsbv) (by omega))
 obtain ⟨z2, HZE2⟩ : ∃ z, Hid (z = numN bd (32 + 32) 16) := ⟨_, rfl⟩
 rw [← HZE2.out] at TK2
 skip
 go_at_call 21
 refine TK2.out.mono ?_
 rintro e T2 ⟨rfl, hb, hk⟩
 have HBT2 : Hid (Below v1.heap.size v1 T2) := HBU2.out.trans (hb.below hsbv HBU2.out.size)
 have HXT2 := hidden (hb.blk HSX2.out hxs)
 have HST2 := hidden hk
 have cx2 : T2.cell? ⟨sx, 2, none⟩ = some (.int .i64 0) := HXT2.out.cell rfl
 have fx2 := HXT2.out.frozen 2
 have HSX3 : Hid (Blk (T2.setCell ⟨sx, 2, none⟩ (.int .i64 (z2 : Int))) sx 27 #[.int .i64 ((z0 : Nat) : Int), .int .i64 ((z1 : Nat) : Int), .int .i64 ((z2 : Nat) : Int), .int .i64 0, .int .i64 0]) := HXT2.out.set 2 _
 have HSB3 : Hid (Blk (T2.setCell ⟨sx, 2, none⟩ (.int .i64 (z2 : Int))) sb 48 (stQ (some ⟨ab, ao, none⟩) bd c (32 + 48))) := (But.set sx 2 _ _).blk HST2.out (Ne.symm hxs)
 have HBU3 : Hid (Below v1.heap.size v1 (T2.setCell ⟨sx, 2, none⟩ (.int .i64 (z2 : Int)))) := HBT2.out.trans ((But.set sx 2 _ _).below hsxv HBT2.out.size)
 clear hb hk TK2 HBT2 HXT2 HST2 HBU2 HSB2 HSX2
 go_wp2_with fail
 generalize T2.setCell ⟨sx, 2, none⟩ (.int .i64 (z2 : Int)) = U3 at *
 clear cx2 fx2
 have TK3 := hidden (TAKC.out U3 48 sb HSB3.out (HBX.out.trans (HBU3.out.mono HBX.out.size)) (Nat.le_trans HBX.out.size hsbv) (by omega))
 obtain ⟨z3, HZE3⟩ : ∃ z, Hid (z = numN bd (32 + 48) 16) := ⟨_, rfl⟩
 rw [← HZE3.out] at TK3
 skip
 go_at_call 21
 refine TK3.out.mono ?_
 rintro e T3 ⟨rfl, hb, hk⟩
 have HBT3 : Hid (Below v1.heap.size v1 T3) := HBU3.out.trans (hb.below hsbv HBU3.out.size)
 have HXT3 := hidden (hb.blk HSX3.out hxs)
 have HST3 := hidden hk
 have cx3 : T3.cell? ⟨sx, 3, none⟩ = some (.int .i64 0) := HXT3.out.cell rfl
 have fx3 := HXT3.out.frozen 3
 have HSX4 : Hid (Blk (T3.setCell ⟨sx, 3, none⟩ (.int .i64 (z3 : Int))) sx 27 #[.int .i64 ((z0 : Nat) : Int), .int .i64 ((z1 : Nat) : Int), .int .i64 ((z2 : Nat) : Int), .int .i64 ((z3 : Nat) : Int), .int .i64 0]) := HXT3.out.set 3 _
 have HSB4 : Hid (Blk (T3.setCell ⟨sx, 3, none⟩ (.int .i64 (z3 : Int))) sb 48 (stQ (some ⟨ab, ao, none⟩) bd c (32 + 64))) := (But.set sx 3 _ _).blk HST3.out (Ne.symm hxs)
 have HBU4 : Hid (Below v1.heap.size v1 (T3.setCell ⟨sx, 3, none⟩ (.int .i64 (z3 : Int)))) := HBT3.out.trans ((But.set sx 3 _ _).below hsxv HBT3.out.size)
 clear hb hk TK3 HBT3 HXT3 HST3 HBU3 HSB3 HSX3
 go_wp2_with fail
 generalize T3.setCell ⟨sx, 3, none⟩ (.int .i64 (z3 : Int)) = U4 at *
 clear cx3 fx3
 have TK4 := hidden (TAKC.out U4 64 sb HSB4.out (HBX.out.trans (HBU4.out.mono HBX.out.size)) (Nat.le_trans HBX.out.size hsbv) (by omega))
 obtain ⟨z4, HZE4⟩ : ∃ z, Hid (z = numN bd (32 + 64) 16) := ⟨_, rfl⟩
 rw [← HZE4.out] at TK4
 skip
 go_at_call 21
 refine TK4.out.mono ?_
 rintro e T4 ⟨rfl, hb, hk⟩
 have HBT4 : Hid (Below v1.heap.size v1 T4) := HBU4.out.trans (hb.below hsbv HBU4.out.size)
 have HXT4 := hidden (hb.blk HSX4.out hxs)
 have HST4 := hidden hk
 have cx4 : T4.cell? ⟨sx, 4, none⟩ = some (.int .i64 0) := HXT4.out.cell rfl
 have fx4 := HXT4.out.frozen 4
 have HSX5 : Hid (Blk (T4.setCell ⟨sx, 4, none⟩ (.int .i64 (z4 : Int))) sx 27 #[.int .i64 ((z0 : Nat) : Int), .int .i64 ((z1 : Nat) : Int), .int .i64 ((z2 : Nat) : Int), .int .i64 ((z3 : Nat) : Int), .int .i64 ((z4 : Nat) : Int)]) := HXT4.out.set 4 _
 have HSB5 : Hid (Blk (T4.setCell ⟨sx, 4, none⟩ (.int .i64 (z4 : Int))) sb 48 (stQ (some ⟨ab, ao, none⟩) bd c (32 + 80))) := (But.set sx 4 _ _).blk HST4.out (Ne.symm hxs)
 have HBU5 : Hid (Below v1.heap.size v1 (T4.setCell ⟨sx, 4, none⟩ (.int .i64 (z4 : Int)))) := HBT4.out.trans ((But.set sx 4 _ _).below hsxv HBT4.out.size)
 clear hb hk TK4 HBT4 HXT4 HST4 HBU4 HSB4 HSX4
 go_upto_region 14 with fail
 generalize T4.setCell ⟨sx, 4, none⟩ (.int .i64 (z4 : Int)) = U5 at *
 clear cx4 fx4
 have HZS : Hid ((⟨(z0 : Int), (z1 : Int), (z2 : Int), (z3 : Int), (z4 : Int)⟩ : ShD) = shS (numN bt)) := by
  show _ = _
  unfold shS
  rw [HZE0.out, HZE1.out, HZE2.out, HZE3.out, HZE4.out, HNN.out, HNN.out, HNN.out, HNN.out, HNN.out]
 have lh0 : h0 < v1.heap.size := HZ0.out.lt
 have lh1 : h1 < v1.heap.size := HZ1.out.lt
 have lh2 : h2 < v1.heap.size := HZ2.out.lt
 have HZ0 : Hid (Blk U5 h0 32 zeroA) := HZ0.out.below HBU5.out
 have HZ1 : Hid (Blk U5 h1 40 #[.int .i64 0, .int .i64 0]) := HZ1.out.below HBU5.out
 have HZ2 : Hid (Blk U5 h2 40 #[.int .i64 18, .int .i64 0]) := HZ2.out.below HBU5.out
 have HBX' : Hid (Below w.heap.size w U5) := HBX.out.trans (HBU5.out.mono HBX.out.size)
 have SVC := hidden (shapeValid_doc U5 ⟨(z0 : Int), (z1 : Int), (z2 : Int), (z3 : Int), (z4 : Int)⟩)
 rw [HZS.out] at SVC
 rw [HSOK.out] at SVC
 unfold ShD.arr shS at SVC
 rw [← HNN.out, ← HNN.out, ← HNN.out, ← HNN.out, ← HNN.out, ← HZE0.out, ← HZE1.out, ← HZE2.out, ← HZE3.out, ← HZE4.out] at SVC
 have y0 : U5.cell? ⟨sx, 0, none⟩ = some (.int .i64 (z0 : Int)) := HSX5.out.cell rfl
 have y1 : U5.cell? ⟨sx, 1, none⟩ = some (.int .i64 (z1 : Int)) := HSX5.out.cell rfl
 have y2 : U5.cell? ⟨sx, 2, none⟩ = some (.int .i64 (z2 : Int)) := HSX5.out.cell rfl
 have y3 : U5.cell? ⟨sx, 3, none⟩ = some (.int .i64 (z3 : Int)) := HSX5.out.cell rfl
 have y4 : U5.cell? ⟨sx, 4, none⟩ = some (.int .i64 (z4 : Int)) := HSX5.out.cell rfl
 go_wp2_with fail
 go_at_call 22
 refine SVC.out.mono ?_
 rintro e v5 ⟨rfl, hb⟩
 have HBV5 : Hid (Below U5.heap.size U5 v5) := hb
 clear hb SVC y0 y1 y2 y3 y4 TAKC
 have HZ0' : Hid (Blk v5 h0 32 zeroA) := HZ0.out.below HBV5.out
 have HZ1' : Hid (Blk v5 h1 40 #[.int .i64 0, .int .i64 0]) := HZ1.out.below HBV5.out
 have HZ2' : Hid (Blk v5 h2 40 #[.int .i64 18, .int .i64 0]) := HZ2.out.below HBV5.out
 have HBX5 : Hid (Below w.heap.size w v5) := HBX'.out.trans (HBV5.out.mono HBX'.out.size)
 have HSX' : Hid (Blk v5 sx 27 #[.int .i64 (z0 : Int), .int .i64 (z1 : Int), .int .i64 (z2 : Int), .int .i64 (z3 : Int), .int .i64 (z4 : Int)]) := HSX5.out.below HBV5.out
 have HSB' : Hid (Blk v5 sb 48 (stQ (some ⟨ab, ao, none⟩) bd c 112)) := HSB5.out.below HBV5.out
 have hws : w.heap.size ≤ sb := Nat.le_trans HBX.out.size hsbv
 have hwsx : w.heap.size ≤ sx := Nat.le_trans HBX.out.size hsxv
 clear HZ0 HZ1 HZ2 HBX HBX' HSX5 HSB5 HBV5 HBU5
 rw [← HNM.out] at HZS HSOK HGOK HNN
 obtain ⟨sh, HSH⟩ : ∃ s : ShD, Hid (s = ⟨(z0 : Int), (z1 : Int), (z2 : Int), (z3 : Int), (z4 : Int)⟩) := ⟨_, rfl⟩
 have HSHS : Hid (sh = shS nm) := by show _ = _; rw [HSH.out]; exact HZS.out
 have hok : sh.ok = true := by rw [HSHS.out]; exact HSOK.out
 have HFIT : Hid sh.fits := ShD.fits_of hok
 have hok2 := hok
 unfold ShD.ok at hok2
 rw [HSH.out] at hok2
 simp only [Bool.and_eq_true] at hok2
 obtain ⟨⟨⟨⟨o1, o2⟩, o3⟩, o4⟩, o5⟩ := hok2
 have b1 := wi_iff o1
 have b2 := wi_iff o2
 have b3 := wi_iff o3
 have b4 := wi_iff o4
 have b5 := wi_iff o5
 have HOK := hidden hok
 clear o1 o2 o3 o4 o5 hok HSOK HZS
 obtain ⟨k0, hk0⟩ : ∃ k, k = wid (2 + z0 + z2) := ⟨_, rfl⟩
 obtain ⟨k1, hk1⟩ : ∃ k, k = wid (2 + z3) := ⟨_, rfl⟩
 have k0l : k0 ≤ 16 := by rw [hk0]; exact wid_lt _ (by omega)
 have k1l : k1 ≤ 16 := by rw [hk1]; exact wid_lt _ (by omega)
 have HW0 : Hid (wid (2 + z0 + z2) = k0) := hk0.symm
 have HW1 : Hid (wid (2 + z3) = k1) := hk1.symm
 clear hk0 hk1
 have q0 : v5.cell? ⟨sx, 0, none⟩ = some (.int .i64 (z0 : Int)) := HSX'.out.cell rfl
 have q1 : v5.cell? ⟨sx, 1, none⟩ = some (.int .i64 (z1 : Int)) := HSX'.out.cell rfl
 have q2 : v5.cell? ⟨sx, 2, none⟩ = some (.int .i64 (z2 : Int)) := HSX'.out.cell rfl
 have q3 : v5.cell? ⟨sx, 3, none⟩ = some (.int .i64 (z3 : Int)) := HSX'.out.cell rfl
 have q4 : v5.cell? ⟨sx, 4, none⟩ = some (.int .i64 (z4 : Int)) := HSX'.out.cell rfl
 go_upto_region 18 with fail
 generalize hW : World.alloc v5 _ = W1
 obtain ⟨cb, hcb⟩ : ∃ x, x = v5.heap.size := ⟨_, rfl⟩
 obtain ⟨base, hbase⟩ : ∃ x, x = W1.heap.size := ⟨_, rfl⟩
 have hbW : Below v5.heap.size v5 W1 := by rw [← hW]; exact (Below.refl _ _).alloc (Nat.le_refl _) _
 have hWs : W1.heap.size = v5.heap.size + 1 := by rw [← hW]; simp
 have HCX : Hid (Blk W1 cb 32 (cfA sh (.slice none 0 0) (.slice none 0 0) (.slice none 0 0))) := by rw [← hW, hcb, HSH.out]; exact Blk.new v5 32 _
 have hcbb : cb < base := by omega
 have HCB : Hid (CbAt base W1 cb sh (.slice none 0 0) (.slice none 0 0) (.slice none 0 0) [] [] []) := ⟨hcbb, HCX.out, World.ownsRow_nil _ _ _ _, World.ownsRow_nil _ _ _ _, World.ownsRow_nil _ _ _ _, fun d hd => by simp at hd⟩
 have HSB : Hid (Blk W1 sb 48 (stQ (some ⟨ab, ao, none⟩) bd c 112)) := HSB'.out.below hbW
 have HSX : Hid (Blk W1 sx 27 #[.int .i64 (z0 : Int), .int .i64 (z1 : Int), .int .i64 (z2 : Int), .int .i64 (z3 : Int), .int .i64 (z4 : Int)]) := HSX'.out.below hbW
 have HZ0 : Hid (Blk W1 h0 32 zeroA) := HZ0'.out.below hbW
 have HZ1 : Hid (Blk W1 h1 40 #[.int .i64 0, .int .i64 0]) := HZ1'.out.below hbW
 have HZ2 : Hid (Blk W1 h2 40 #[.int .i64 18, .int .i64 0]) := HZ2'.out.below hbW
 have HBW : Hid (Below w.heap.size w W1) := HBX5.out.trans (hbW.mono HBX5.out.size)
 have lsb : sb < cb := by rw [hcb]; exact HSB'.out.lt
 have lsx : sx < cb := by rw [hcb]; exact HSX'.out.lt
 have lz0 : h0 < cb := by rw [hcb]; exact HZ0'.out.lt
 have lz1 : h1 < cb := by rw [hcb]; exact HZ1'.out.lt
 have lz2 : h2 < cb := by rw [hcb]; exact HZ2'.out.lt
 have hwcb : w.heap.size ≤ cb := by omega
 rw [← hcb]
 have hbz : base = W1.heap.size := hbase
 clear hW hcb hbW hWs HCX HSB' HSX' HZ0' HZ1' HZ2' HBX5 q0 q1 q2 q3 q4
 have HBZ := hidden hbz
 have hbze : base ≤ W1.heap.size := by omega
 have hbze2 : W1.heap.size ≤ base := by omega
 clear hbz hbase
 obtain ⟨ic, hibc, hzbc, hsbc, hbbc⟩ := info_cell
 have HIc := hidden hibc
 have HZc := hidden hzbc
 have HSc := hidden hsbc
 have HYc := hidden hbbc
 obtain ⟨i1, hib, hzb, hsb', hbb'⟩ := info_col
 have HI1 := hidden hib
 have HZ1i := hidden hzb
 have HS1 := hidden hsb'
 have HY1 := hidden hbb'
 obtain ⟨i2, hib2, hzb2, hsb2', hbb2⟩ := info_cfg
 have HI2 := hidden hib2
 have HZ2i := hidden hzb2
 have HS2 := hidden hsb2'
 have HY2 := hidden hbb2
 obtain ⟨i3, hib3, hzb3, hsb3, hbb3⟩ := info_int
 have HI3 := hidden hib3
 have HZ3i := hidden hzb3
 have HS3 := hidden hsb3
 have HY3 := hidden hbb3
 clear hibc hzbc hsbc hbbc hib hzb hsb' hbb' hib2 hzb2 hsb2' hbb2 hib3 hzb3 hsb3 hbb3
 have KSX : Hid (∀ w', Kp [sb, cb] W1 w' → Blk w' sx 27 #[.int .i64 (z0 : Int), .int .i64 (z1 : Int), .int .i64 (z2 : Int), .int .i64 (z3 : Int), .int .i64 (z4 : Int)]) := fun w' hw' => hw'.blk HSX.out (by simp; omega)
 have TAKG : Hid (∀ (v : World) (P k : Nat), Blk v sb 48 (stQ (some ⟨ab, ao, none⟩) bd c P) → Kp [sb, cb] W1 v → k ≤ 16 → Calls Tryd.prog 21 #[.pointer (some ⟨sb, 0, none⟩), .int .i64 (k : Int)] v fun e w' => e = .returned (.int .i64 ((takeV bd P k : Nat) : Int)) ∧ But sb v w' ∧ Blk w' sb 48 (stQ (some ⟨ab, ao, none⟩) bd c (P + k))) := fun v P k h1 h2 h3 => TAKR.out v P k sb h1 (HBW.out.trans (h2.below (by intro g hg; simp at hg; omega) HBW.out.size)) hws h3
 clear TAKR
 go_wp2_with fail
 go_loopw [10] (fun i' w' => ∃ (i P : Nat) (v1' : Value) (cols : List ClD), i ≤ z4 ∧ i' = .int .i64 i ∧ Hid (CbAt base w' cb sh v1' (.slice none 0 0) (.slice none 0 0) cols [] []) ∧ Hid (cols.length = i ∧ ∀ d, d ∈ cols → d.cs.length ≤ 500) ∧ Hid (Blk w' sb 48 (stQ (some ⟨ab, ao, none⟩) bd c P)) ∧ Hid (P ≤ 32 + posC z3 k0 k1 i) ∧ Hid (P ≤ 8 * n → P = 32 + posC z3 k0 k1 i ∧ cols.map ClD.cs = (List.range i).map (colF nm z3 k0 k1)) ∧ Hid (Kp [sb, cb] W1 w')) (fun i' _ => z4 - (intOf i').toNat)
 case atStart => exact ⟨0, 112, _, [], Nat.zero_le _, rfl, HCB.out, ⟨rfl, fun d hd => by simp at hd⟩, HSB.out, Nat.le_refl _, fun _ => ⟨rfl, rfl⟩, Kp.refl _ _⟩
 case round =>
  clear HCB HSB
  obtain ⟨i, P, v1', cols, hi, rfl, HCB, HLC, HSB, HPL, HPG, HKW⟩ := hrel
  have y4 : wr.cell? ⟨sx, 4, none⟩ = some (.int .i64 (z4 : Int)) := (KSX.out _ HKW.out).cell rfl
  have so : wr.cell? ⟨sb, 3, none⟩ = some (.bool (decide (8 * bd.length < P))) := HSB.out.cell rfl
  rw [HBDL.out] at so
  by_cases hgo : i < z4 ∧ P ≤ 8 * n
  ·obtain ⟨hlt, hPn⟩ := hgo
   have hltI : (i : Int) < (z4 : Int) := by omega
   have hov : decide (8 * n < P) = false := decide_eq_false (by omega)
   rw [hov] at so
   have ei : IntKind.i64.wrap ((i : Int) + 1) = (i : Int) + 1 := wrapI _ (by omega) (by omega)
   obtain ⟨hP0, hcols0⟩ := HPG.out hPn
   have HCO0 := hidden hcols0
   obtain ⟨kk, hkk⟩ : ∃ k, k = kO k0 k1 i := ⟨_, rfl⟩
   have hkl : kk ≤ 16 := by rw [hkk]; unfold kO; split <;> assumption
   obtain ⟨sn, hsn⟩ : ∃ s : Nat, s = if i = 0 then 2 + z0 + z2 else 2 + z3 := ⟨_, rfl⟩
   have hsl : sn ≤ 65536 := by rw [hsn]; split <;> omega
   have SRCC : Hid (∀ w', Calls Tryd.prog 14 #[.agg #[.int .i64 (z0 : Int), .int .i64 (z1 : Int), .int .i64 (z2 : Int), .int .i64 (z3 : Int), .int .i64 (z4 : Int)], .int .i64 (i : Int)] w' fun e w'' => e = .returned (.int .i64 (sn : Int)) ∧ Below w'.heap.size w' w'') := fun w' => by
    have h := sources_doc w' sh i HFIT.out
    have e : sh.src (i : Int) = (sn : Int) := by
     rw [HSH.out, hsn]
     unfold ShD.src
     by_cases h0 : i = 0
     ·rw [if_pos (by omega), if_pos h0]; simp
     ·rw [if_neg (by omega), if_neg h0]; simp
    rw [e, HSH.out] at h
    exact h
   have BITC : Hid (∀ w', Calls Tryd.prog 13 #[.int .i64 (sn : Int)] w' fun e w'' => e = .returned (.int .i64 (kk : Int)) ∧ w'' = w') := fun w' => by
    have h := bits_doc w' sn hsl
    have e : wid sn = kk := by
     rw [hkk, hsn]
     unfold kO
     split
     ·exact HW0.out
     ·exact HW1.out
    rw [e] at h
    exact h
   obtain ⟨pos, hpos⟩ : ∃ p, p = posC z3 k0 k1 i := ⟨_, rfl⟩
   have hpl : pos ≤ 4000080 := by rw [hpos]; have := posC_le z3 k0 k1 (by omega) k0l k1l i; have : i * 40000 ≤ 100 * 40000 := Nat.mul_le_mul_right _ (by omega); omega
   have HNX : Hid (posC z3 k0 k1 (i + 1) = pos + z3 * cw kk) := by show _ = _; rw [hpos, hkk]; rfl
   have HCF : Hid (colF nm z3 k0 k1 i = clS nm pos kk z3) := by show _ = _; unfold colF; rw [← hpos, ← hkk]
   rw [← hpos] at hP0
   subst hP0
   obtain ⟨Y0, hY0⟩ : ∃ x, x = wr := ⟨_, rfl⟩
   rw [← hY0] at HCB HSB HKW so y4
   rw [← hY0]
   have hYs : base ≤ Y0.heap.size := by have := HKW.out.size; omega
   have HSB0 : Hid (Blk Y0 sb 48 (stQ (some ⟨ab, ao, none⟩) bd c (32 + (pos + 0 * cw kk)))) := by rw [Nat.zero_mul, Nat.add_zero]; exact HSB.out
   clear hY0 hcols0 hov hPn HPG HPL hsn hkk hpos HSB
   go_wp2_with fail
   clear so y4
   go_loopw [11, 12] (fun cv k' w' => ∃ (k P : Nat) (cs : List CeD), k ≤ z3 ∧ k' = .int .i64 k ∧ Hid (w'.ownsRow Y0.heap.size 53 5 cv k (flatC cs)) ∧ Hid (cs.length = k) ∧ Hid (Blk w' sb 48 (stQ (some ⟨ab, ao, none⟩) bd c P)) ∧ Hid (P ≤ 32 + (pos + k * cw kk)) ∧ Hid (P ≤ 8 * n → P = 32 + (pos + k * cw kk) ∧ cs = clS nm pos kk k) ∧ Hid (Kp [sb] Y0 w')) (fun _ k' _ => z3 - (intOf k').toNat)
   case atStart => exact ⟨0, 32 + (pos + 0 * cw kk), [], Nat.zero_le _, rfl, World.ownsRow_nil _ _ _ _, rfl, HSB0.out, Nat.le_refl _, fun _ => ⟨rfl, rfl⟩, Kp.refl _ _⟩
   case round =>
    clear HSB0
    obtain ⟨k, P, cs, hk, rfl, HOC, HCL, HSB, HPL, HPG, HKY⟩ := hrel
    have HKB : Hid (Kp [sb, cb] W1 wr) := HKW.out.trans (HKY.out.more (by intro g hg; simp at hg ⊢; exact .inl hg))
    have y3 : wr.cell? ⟨sx, 3, none⟩ = some (.int .i64 (z3 : Int)) := (KSX.out _ HKB.out).cell rfl
    have so : wr.cell? ⟨sb, 3, none⟩ = some (.bool (decide (8 * bd.length < P))) := HSB.out.cell rfl
    rw [HBDL.out] at so
    by_cases hgo : k < z3 ∧ P ≤ 8 * n
    ·obtain ⟨hlt2, hPn⟩ := hgo
     have hltI2 : (k : Int) < (z3 : Int) := by omega
     have hov : decide (8 * n < P) = false := decide_eq_false (by omega)
     rw [hov] at so
     have ek : IntKind.i64.wrap ((k : Int) + 1) = (k : Int) + 1 := wrapI _ (by omega) (by omega)
     obtain ⟨hP0, hcs0⟩ := HPG.out hPn
     have HCS0 := hidden hcs0
     obtain ⟨p, hp⟩ : ∃ p, p = pos + k * cw kk := ⟨_, rfl⟩
     rw [← hp] at hP0
     subst hP0
     have hpl2 : p ≤ 5000000 := by
      have h1 : cw kk ≤ 80 := by unfold cw; omega
      have : k * cw kk ≤ 500 * 80 := Nat.mul_le_mul (by omega) h1
      omega
     have HNK : Hid (pos + (k + 1) * cw kk = p + 16 + 4 * kk) := by
      show _ = _
      rw [hp, Nat.add_mul]
      unfold cw
      omega
     have HCE : Hid (clS nm pos kk (k + 1) = clS nm pos kk k ++ [ceS nm p kk]) := by show _ = _; rw [hp]; exact clS_snoc nm pos kk k
     have TK := hidden (TAKG.out wr (32 + p) 16 HSB.out HKB.out (by omega))
     obtain ⟨bb, HBBE⟩ : ∃ b, Hid (b = takeV bd (32 + p) 16) := ⟨_, rfl⟩
     rw [← HBBE.out] at TK
     clear hcs0 hov hPn HPG HPL hp
     go_wp2_with fail
     clear so y3
     go_at_call 21
     refine TK.out.mono ?_
     rintro e T1 ⟨rfl, hb, hk1⟩
     have HKT : Hid (Kp [sb] Y0 T1) := HKY.out.trans (hb.kp (by simp))
     have HST := hidden hk1
     have HOT : Hid (T1.ownsRow Y0.heap.size 53 5 u11 k (flatC cs)) := own_kp HOC.out (hb.kp (gs := [sb]) (by simp)) (fun g hg => by have := (HOC.out.lt g hg).1; simp; omega)
     clear hb hk1 TK HKY HOC HSB HKB
     go_upto_region 26 with fail
     generalize hY : World.alloc T1 _ = Y
     obtain ⟨db, hdb⟩ : ∃ x, x = T1.heap.size := ⟨_, rfl⟩
     have HDB : Hid (Blk Y db 53 (selA (fun _ => 0) (bb : Int))) := by rw [← hY, hdb]; exact Blk.new T1 53 _
     have hbY : Below T1.heap.size T1 Y := by rw [← hY]; exact (Below.refl _ _).alloc (Nat.le_refl _) _
     have HSY : Hid (Blk Y sb 48 (stQ (some ⟨ab, ao, none⟩) bd c (32 + (p + 16 + 0 * kk)))) := by rw [Nat.zero_mul, Nat.add_zero, ← Nat.add_assoc]; exact HST.out.below hbY
     have HKY : Hid (Kp [sb] Y0 Y) := HKT.out.trans (Below.kp hbY)
     have HOY : Hid (Y.ownsRow Y0.heap.size 53 5 u11 k (flatC cs)) := own_below HOT.out hbY
     have hdn : ∀ g, u11.ownBlock = some g → g ≠ db := fun g hg => by have := (HOT.out.lt g hg).2; omega
     have HDN := hidden hdn
     have hdY : Y0.heap.size ≤ db := by have := HKT.out.size; omega
     have hdsb : db ≠ sb := by omega
     rw [← hdb]
     clear hY hbY hdb hdn HST HKT HOT
     go_wp2_with fail
     go_loopw [14] (fun j' w' => ∃ (j P : Nat) (s : Nat → Int), j ≤ 4 ∧ j' = .int .i64 j ∧ Hid (Blk w' db 53 (selA s (bb : Int))) ∧ Hid (Blk w' sb 48 (stQ (some ⟨ab, ao, none⟩) bd c P)) ∧ Hid (P = 32 + (p + 16 + j * kk)) ∧ Hid (P ≤ 8 * n → ∀ m, m < j → s m = ((nm (p + 16 + m * kk) kk : Nat) : Int)) ∧ Hid (Kp [sb, db] Y w')) (fun j' _ => 4 - (intOf j').toNat)
     case atStart => exact ⟨0, _, _, Nat.zero_le _, rfl, HDB.out, HSY.out, rfl, fun _ m hm => by omega, Kp.refl _ _⟩
     case round =>
      clear HDB HSY
      obtain ⟨j, P, s, hj, rfl, HDB, HSJ, HPJ, HGJ, HKJ⟩ := hrel
      by_cases hlt3 : j < 4
      ·have hltI3 : (j : Int) < 4 := by omega
       have ej : IntKind.i64.wrap ((j : Int) + 1) = (j : Int) + 1 := wrapI _ (by omega) (by omega)
       have hPJ := HPJ.out
       have hjk : j * kk ≤ 4 * 16 := Nat.mul_le_mul (by omega) hkl
       have HKYW : Hid (Kp [sb, cb] W1 Y) := HKW.out.trans (HKY.out.more (by intro g hg; simp at hg ⊢; exact .inl hg))
       have hdW : W1.heap.size ≤ db := by have := HKW.out.size; omega
       have HKJW : Hid (Kp [sb, cb] W1 wr) := HKYW.out.trans' HKJ.out hdW
       have y0 : wr.cell? ⟨sx, 0, none⟩ = some (.int .i64 (z0 : Int)) := (KSX.out _ HKJW.out).cell rfl
       have y1 : wr.cell? ⟨sx, 1, none⟩ = some (.int .i64 (z1 : Int)) := (KSX.out _ HKJW.out).cell rfl
       have y2 : wr.cell? ⟨sx, 2, none⟩ = some (.int .i64 (z2 : Int)) := (KSX.out _ HKJW.out).cell rfl
       have y3 : wr.cell? ⟨sx, 3, none⟩ = some (.int .i64 (z3 : Int)) := (KSX.out _ HKJW.out).cell rfl
       have y4 : wr.cell? ⟨sx, 4, none⟩ = some (.int .i64 (z4 : Int)) := (KSX.out _ HKJW.out).cell rfl
       obtain ⟨q, hq⟩ : ∃ q, q = 32 + (p + 16 + j * kk) := ⟨_, rfl⟩
       have hPq : P = q := by rw [hPJ, hq]
       subst hPq
       clear hPJ
       go_wp2_with fail
       clear y0 y1 y2 y3 y4
       go_at_call 14
       refine (SRCC.out _).mono ?_
       rintro e t1 ⟨rfl, hb1⟩
       have HB1 := hidden hb1
       clear hb1
       go_wp2_with fail
       go_at_call 13
       refine (BITC.out _).mono ?_
       rintro e t2 ⟨rfl, ht2⟩
       rw [ht2]
       clear ht2
       have TK := hidden (TAKG.out t1 P kk (HSJ.out.below HB1.out) (HKJW.out.trans (Below.kp HB1.out)) hkl)
       obtain ⟨zz, HZZ⟩ : ∃ z, Hid (z = takeV bd P kk) := ⟨_, rfl⟩
       rw [← HZZ.out] at TK
       go_wp2_with fail
       go_at_call 21
       refine TK.out.mono ?_
       rintro e t3 ⟨rfl, hb3, hk3⟩
       have HD3 : Hid (Blk t3 db 53 (selA s (bb : Int))) := hb3.blk (HDB.out.below HB1.out) hdsb
       have HS3 := hidden hk3
       have HK3 : Hid (Kp [sb, db] Y t3) := (HKJ.out.trans (Below.kp HB1.out)).trans (hb3.kp (by simp))
       have cj : t3.cell? ⟨db, j, none⟩ = some (.int .i64 (s j)) := HD3.out.cell (selA_get s bb j hlt3)
       have fj := HD3.out.frozen j
       have HD4 : Hid (Blk (t3.setCell ⟨db, j, none⟩ (.int .i64 (zz : Int))) db 53 (selA (fun m => if m = j then (zz : Int) else s m) (bb : Int))) := by
        have := HD3.out.set j (.int .i64 (zz : Int))
        rw [selA_set _ _ _ _ hlt3] at this
        exact this
       have HS4 : Hid (Blk (t3.setCell ⟨db, j, none⟩ (.int .i64 (zz : Int))) sb 48 (stQ (some ⟨ab, ao, none⟩) bd c (P + kk))) := (But.set db j _ _).blk HS3.out (Ne.symm hdsb)
       have HK4 : Hid (Kp [sb, db] Y (t3.setCell ⟨db, j, none⟩ (.int .i64 (zz : Int)))) := HK3.out.trans (Kp.set _ _ _ _ _ (by simp))
       have HP4 : Hid (P + kk = 32 + (p + 16 + (j + 1) * kk)) := by show _ = _; rw [hq, Nat.add_mul, Nat.one_mul]; omega
       have HG4 : Hid (P + kk ≤ 8 * n → ∀ m, m < j + 1 → (fun m => if m = j then (zz : Int) else s m) m = ((nm (p + 16 + m * kk) kk : Nat) : Int)) := by
        intro hle m hm
        by_cases hmj : m = j
        ·subst hmj
         show (if m = m then (zz : Int) else s m) = _
         rw [if_pos rfl, HZZ.out]
         unfold takeV
         rw [HBDL.out, if_pos hle, hq, HNN.out]
        ·show (if m = j then (zz : Int) else s m) = _
         rw [if_neg hmj]
         exact HGJ.out (by omega) m (by omega)
       clear hb3 hk3 TK HB1 HKYW HKJW HD3 HS3 HK3 HGJ hq
       go_wp2
       go_roundw
       case measure => simp [intOf]; omega
       case rel => exact ⟨j + 1, P + kk, _, by omega, by simp, HD4.out, HS4.out, HP4.out, HG4.out, HK4.out⟩
      ·have hge3 : ¬ ((j : Int) < 4) := by omega
       have hj4 : j = 4 := by omega
       have HOW : Hid (wr.ownsRow Y0.heap.size 53 5 u11 k (flatC cs)) := own_kp HOY.out HKJ.out (fun g hg => by have h1 := (HOY.out.lt g hg).1; have h2 := HDN.out g hg; simp; omega)
       have HKYr : Hid (Kp [sb] Y0 wr) := HKY.out.trans' HKJ.out hdY
       obtain ⟨x0, hx0⟩ : ∃ x, x = s 0 := ⟨_, rfl⟩
       obtain ⟨x1, hx1⟩ : ∃ x, x = s 1 := ⟨_, rfl⟩
       obtain ⟨x2, hx2⟩ : ∃ x, x = s 2 := ⟨_, rfl⟩
       obtain ⟨x3, hx3⟩ : ∃ x, x = s 3 := ⟨_, rfl⟩
       have d0 : wr.cell? ⟨db, 0, none⟩ = some (.int .i64 x0) := by rw [hx0]; exact HDB.out.cell rfl
       have d1 : wr.cell? ⟨db, 1, none⟩ = some (.int .i64 x1) := by rw [hx1]; exact HDB.out.cell rfl
       have d2 : wr.cell? ⟨db, 2, none⟩ = some (.int .i64 x2) := by rw [hx2]; exact HDB.out.cell rfl
       have d3 : wr.cell? ⟨db, 3, none⟩ = some (.int .i64 x3) := by rw [hx3]; exact HDB.out.cell rfl
       have d4 : wr.cell? ⟨db, 4, none⟩ = some (.int .i64 (bb : Int)) := HDB.out.cell rfl
       have HGD : Hid (P ≤ 8 * n → P = 32 + (pos + (k + 1) * cw kk) ∧ cs ++ [⟨x0, x1, x2, x3, (bb : Int)⟩] = clS nm pos kk (k + 1)) := by
        intro hle
        have hP := HPJ.out
        rw [hj4] at hP
        refine ⟨by rw [HNK.out, hP], ?_⟩
        rw [HCE.out, ← HCS0.out, hx0, hx1, hx2, hx3]
        congr 1
        unfold ceS
        have hg := HGJ.out hle
        rw [hg 0 (by omega), hg 1 (by omega), hg 2 (by omega), hg 3 (by omega), HBBE.out]
        unfold takeV
        rw [HBDL.out, if_pos (by omega), HNN.out]
       have HPL2 : Hid (P ≤ 32 + (pos + (k + 1) * cw kk)) := by
        show P ≤ _
        have hP := HPJ.out
        rw [hj4] at hP
        rw [HNK.out, hP]
        exact Nat.le_refl _
       have hm1 : k + 1 ≤ maxLen := by simp only [maxLen]; omega
       have hm2 : (k + 1) * 40 ≤ 140737488355328 := by omega
       have hm3 : Y0.heap.size ≤ (wr.alloc (.cells #[.int .i64 x0, .int .i64 x1, .int .i64 x2, .int .i64 x3, .int .i64 (bb : Int)] 53)).heap.size := by have := HKYr.out.size; simp; omega
       clear hx0 hx1 hx2 hx3 HOY HKJ HGJ HDB HKY
       have tok : True := trivial
       go_wp2_with (have _t := tok; at_builtin; (refine wpList_append_lies _ rfl (.tmp 116) (.tmp 118) 50 rfl Y0.heap.size 53 ic _ 5 40 Tryd.underlying50 HIc.out HZc.out HSc.out HYc.out rfl (by decide) u11 k _ rfl (HOW.out.alloc _) ⟨wr.heap.size, 0, none⟩ 1 1 [.int .i64 x0, .int .i64 x1, .int .i64 x2, .int .i64 x3, .int .i64 (bb : Int)] rfl rfl (World.news_of_block (heap_new _ _)) (by simp [Value.oneCell']) (by decide) hm1 hm2 hm3 _ rfl ?_; intro g5 cap5 w5 hown hgrow hat5 hlt5; clear tok))
       have HG5 : Hid (wr.grownBy w5 u11.ownBlock) := grown_trans (World.grownBy_alloc _ _ _) hgrow
       have HO5 : Hid (w5.ownsRow Y0.heap.size 53 5 (.slice (some ⟨g5, 0, none⟩) (k + 1) cap5) (k + 1) (flatC (cs ++ [⟨x0, x1, x2, x3, (bb : Int)⟩]))) := by rw [flatC_snoc]; exact hown
       have HL5 : Hid ((cs ++ [(⟨x0, x1, x2, x3, (bb : Int)⟩ : CeD)]).length = k + 1) := by show _ = _; rw [List.length_append, HCL.out]; rfl
       have HS5 : Hid (Blk w5 sb 48 (stQ (some ⟨ab, ao, none⟩) bd c P)) := (HG5.out.block sb HSJ.out.lt (fun e => by have := (HOW.out.lt sb e.symm).1; omega)).trans HSJ.out
       have HK5 : Hid (Kp [sb] Y0 w5) := HKYr.out.grow HG5.out (fun g hg => (HOW.out.lt g hg).1)
       clear hown hgrow hat5 hlt5 HG5 HOW HSJ HKYr d0 d1 d2 d3 d4 hm1 hm2 hm3 HCL
       go_wp2
       go_roundw
       case measure => simp [intOf]; omega
       case rel => exact ⟨k + 1, P, _, by omega, by simp, HO5.out, HL5.out, HS5.out, HPL2.out, HGD.out, HK5.out⟩
    ·by_cases hkz : k < z3
     ·have hov : decide (8 * n < P) = true := decide_eq_true (by omega)
      rw [hov] at so
      have hltI2 : (k : Int) < (z3 : Int) := by omega
      have HCW : Hid (CbAt base wr cb sh v1' (.slice none 0 0) (.slice none 0 0) cols [] []) := HCB.out.kp HKY.out (by simp; omega) (by intro g hg; simp at hg; left; omega)
      obtain ⟨ca, cc, hcv, -⟩ := own_row (f := CeD.cells) (xs := cs) HOC.out HCL.out.symm (fun _ => rfl)
      subst hcv
      have HO1 : Hid (wr.ownsRow base 50 1 v1' i (cols.map ClD.val)) := by have := HCW.out.o1; rwa [HLC.out.1] at this
      have HDD : Hid (wr.ownsRow base 53 5 (ClD.val ⟨ca, cc, cs⟩) (ClD.mk ca cc cs).cs.length (flatC cs)) := by
       unfold ClD.val
       show wr.ownsRow base _ 5 (.slice ca cs.length cc) cs.length _
       rw [HCL.out]
       exact own_mono HOC.out hYs
      have c5 : wr.cell? ⟨cb, 5, none⟩ = some v1' := HCW.out.box.cell rfl
      have hm1 : i + 1 ≤ maxLen := by simp only [maxLen]; omega
      have hm2 : (i + 1) * 24 ≤ 140737488355328 := by omega
      have hm3 : base ≤ (wr.alloc (.cells #[.slice ca k cc] 50)).heap.size := by have := HKY.out.size; simp; omega
      have tok : True := trivial
      go_wp2_with (have _t := tok; at_builtin; (refine wpList_append_lies _ rfl (.tmp 121) (.tmp 123) 28 rfl base 50 i1 _ 1 24 Tryd.underlying28 HI1.out HZ1i.out HS1.out HY1.out rfl (by decide) v1' i _ rfl (HO1.out.alloc _) ⟨wr.heap.size, 0, none⟩ 1 1 [.slice ca k cc] rfl rfl (World.news_of_block (heap_new _ _)) (by simp [Value.oneCell']) (by decide) hm1 hm2 hm3 _ rfl ?_; intro g5 cap5 w5 hown hgrow hat5 hlt5; have HG5 : Hid (wr.grownBy w5 v1'.ownBlock) := grown_trans (World.grownBy_alloc _ _ _) hgrow; have HOW5 := hidden hown; have hB5 : Blk w5 cb 32 _ := (HG5.out.block cb HCW.out.box.lt (fun e => by have := (HO1.out.lt cb e.symm).1; have := HCW.out.lt; omega)).trans HCW.out.box; have c55 : w5.cell? ⟨cb, 5, none⟩ = some v1' := hB5.cell rfl; have f55 := hB5.frozen 5; clear tok hown hgrow hat5 hlt5 hB5))
      have HC6 : Hid (CbAt base (w5.setCell ⟨cb, 5, none⟩ (.slice (some ⟨g5, 0, none⟩) (i + 1) cap5)) cb sh (.slice (some ⟨g5, 0, none⟩) (i + 1) cap5) (.slice none 0 0) (.slice none 0 0) (cols ++ [⟨ca, cc, cs⟩]) [] []) := by
       refine HCW.out.push1 (d := ⟨ca, cc, cs⟩) HDD.out ?_ HG5.out
       rw [HLC.out.1]
       have := HOW5.out
       unfold ClD.val at this ⊢
       dsimp only at this ⊢
       rw [HCL.out]
       exact this
      have HS6 : Hid (Blk (w5.setCell ⟨cb, 5, none⟩ (.slice (some ⟨g5, 0, none⟩) (i + 1) cap5)) sb 48 (stQ (some ⟨ab, ao, none⟩) bd c P)) := (But.set cb 5 w5 _).blk ((HG5.out.block sb HSB.out.lt (fun e => by have := (HO1.out.lt sb e.symm).1; omega)).trans HSB.out) (by omega)
      have HK6 : Hid (Kp [sb, cb] W1 (w5.setCell ⟨cb, 5, none⟩ (.slice (some ⟨g5, 0, none⟩) (i + 1) cap5))) := (HKB.out.grow HG5.out (fun g hg => by have := (HO1.out.lt g hg).1; omega)).trans (Kp.set _ _ _ _ _ (by simp))
      have HL6 : Hid ((cols ++ [(⟨ca, cc, cs⟩ : ClD)]).length = i + 1 ∧ ∀ d, d ∈ cols ++ [(⟨ca, cc, cs⟩ : ClD)] → d.cs.length ≤ 500) := by
       refine ⟨by rw [List.length_append, HLC.out.1]; rfl, fun d hd => ?_⟩
       rcases List.mem_append.1 hd with hd | hd
       ·exact HLC.out.2 d hd
       ·simp at hd
        subst hd
        show cs.length ≤ 500
        rw [HCL.out]
        omega
      have HP6 : Hid (P ≤ 32 + posC z3 k0 k1 (i + 1)) := by
       show P ≤ _
       have h1 := HPL.out
       have h2 : k * cw kk ≤ z3 * cw kk := Nat.mul_le_mul_right _ hk
       rw [HNX.out]
       omega
      have HG6 : Hid (P ≤ 8 * n → P = 32 + posC z3 k0 k1 (i + 1) ∧ (cols ++ [(⟨ca, cc, cs⟩ : ClD)]).map ClD.cs = (List.range (i + 1)).map (colF nm z3 k0 k1)) := by
       intro hle
       have hkz : k = z3 := by omega
       obtain ⟨e1, e2⟩ := HPG.out hle
       rw [hkz] at e1 e2
       refine ⟨by rw [HNX.out]; exact e1, ?_⟩
       rw [List.map_append, HCO0.out, List.range_succ, List.map_append]
       show _ ++ [cs] = _ ++ [colF nm z3 k0 k1 i]
       rw [e2, HCF.out]
      generalize w5.setCell ⟨cb, 5, none⟩ (.slice (some ⟨g5, 0, none⟩) (i + 1) cap5) = X6 at *
      clear HO1 HG5 HOW5 c55 f55 c5 HCW HDD HKB HKY HOC HPG HPL HSB HLC
      go_wp2
      go_roundw
      case measure => simp [intOf]; omega
      case rel => exact ⟨i + 1, P, _, _, by omega, by simp, HC6.out, HL6.out, HS6.out, HP6.out, HG6.out, HK6.out⟩
     ·have hge2 : ¬ ((k : Int) < (z3 : Int)) := by omega
      have HCW : Hid (CbAt base wr cb sh v1' (.slice none 0 0) (.slice none 0 0) cols [] []) := HCB.out.kp HKY.out (by simp; omega) (by intro g hg; simp at hg; left; omega)
      obtain ⟨ca, cc, hcv, -⟩ := own_row (f := CeD.cells) (xs := cs) HOC.out HCL.out.symm (fun _ => rfl)
      subst hcv
      have HO1 : Hid (wr.ownsRow base 50 1 v1' i (cols.map ClD.val)) := by have := HCW.out.o1; rwa [HLC.out.1] at this
      have HDD : Hid (wr.ownsRow base 53 5 (ClD.val ⟨ca, cc, cs⟩) (ClD.mk ca cc cs).cs.length (flatC cs)) := by
       unfold ClD.val
       show wr.ownsRow base _ 5 (.slice ca cs.length cc) cs.length _
       rw [HCL.out]
       exact own_mono HOC.out hYs
      have c5 : wr.cell? ⟨cb, 5, none⟩ = some v1' := HCW.out.box.cell rfl
      have hm1 : i + 1 ≤ maxLen := by simp only [maxLen]; omega
      have hm2 : (i + 1) * 24 ≤ 140737488355328 := by omega
      have hm3 : base ≤ (wr.alloc (.cells #[.slice ca k cc] 50)).heap.size := by have := HKY.out.size; simp; omega
      have tok : True := trivial
      go_wp2_with (have _t := tok; at_builtin; (refine wpList_append_lies _ rfl (.tmp 121) (.tmp 123) 28 rfl base 50 i1 _ 1 24 Tryd.underlying28 HI1.out HZ1i.out HS1.out HY1.out rfl (by decide) v1' i _ rfl (HO1.out.alloc _) ⟨wr.heap.size, 0, none⟩ 1 1 [.slice ca k cc] rfl rfl (World.news_of_block (heap_new _ _)) (by simp [Value.oneCell']) (by decide) hm1 hm2 hm3 _ rfl ?_; intro g5 cap5 w5 hown hgrow hat5 hlt5; have HG5 : Hid (wr.grownBy w5 v1'.ownBlock) := grown_trans (World.grownBy_alloc _ _ _) hgrow; have HOW5 := hidden hown; have hB5 : Blk w5 cb 32 _ := (HG5.out.block cb HCW.out.box.lt (fun e => by have := (HO1.out.lt cb e.symm).1; have := HCW.out.lt; omega)).trans HCW.out.box; have c55 : w5.cell? ⟨cb, 5, none⟩ = some v1' := hB5.cell rfl; have f55 := hB5.frozen 5; clear tok hown hgrow hat5 hlt5 hB5))
      have HC6 : Hid (CbAt base (w5.setCell ⟨cb, 5, none⟩ (.slice (some ⟨g5, 0, none⟩) (i + 1) cap5)) cb sh (.slice (some ⟨g5, 0, none⟩) (i + 1) cap5) (.slice none 0 0) (.slice none 0 0) (cols ++ [⟨ca, cc, cs⟩]) [] []) := by
       refine HCW.out.push1 (d := ⟨ca, cc, cs⟩) HDD.out ?_ HG5.out
       rw [HLC.out.1]
       have := HOW5.out
       unfold ClD.val at this ⊢
       dsimp only at this ⊢
       rw [HCL.out]
       exact this
      have HS6 : Hid (Blk (w5.setCell ⟨cb, 5, none⟩ (.slice (some ⟨g5, 0, none⟩) (i + 1) cap5)) sb 48 (stQ (some ⟨ab, ao, none⟩) bd c P)) := (But.set cb 5 w5 _).blk ((HG5.out.block sb HSB.out.lt (fun e => by have := (HO1.out.lt sb e.symm).1; omega)).trans HSB.out) (by omega)
      have HK6 : Hid (Kp [sb, cb] W1 (w5.setCell ⟨cb, 5, none⟩ (.slice (some ⟨g5, 0, none⟩) (i + 1) cap5))) := (HKB.out.grow HG5.out (fun g hg => by have := (HO1.out.lt g hg).1; omega)).trans (Kp.set _ _ _ _ _ (by simp))
      have HL6 : Hid ((cols ++ [(⟨ca, cc, cs⟩ : ClD)]).length = i + 1 ∧ ∀ d, d ∈ cols ++ [(⟨ca, cc, cs⟩ : ClD)] → d.cs.length ≤ 500) := by
       refine ⟨by rw [List.length_append, HLC.out.1]; rfl, fun d hd => ?_⟩
       rcases List.mem_append.1 hd with hd | hd
       ·exact HLC.out.2 d hd
       ·simp at hd
        subst hd
        show cs.length ≤ 500
        rw [HCL.out]
        omega
      have HP6 : Hid (P ≤ 32 + posC z3 k0 k1 (i + 1)) := by
       show P ≤ _
       have h1 := HPL.out
       have h2 : k * cw kk ≤ z3 * cw kk := Nat.mul_le_mul_right _ hk
       rw [HNX.out]
       omega
      have HG6 : Hid (P ≤ 8 * n → P = 32 + posC z3 k0 k1 (i + 1) ∧ (cols ++ [(⟨ca, cc, cs⟩ : ClD)]).map ClD.cs = (List.range (i + 1)).map (colF nm z3 k0 k1)) := by
       intro hle
       have hkz : k = z3 := by omega
       obtain ⟨e1, e2⟩ := HPG.out hle
       rw [hkz] at e1 e2
       refine ⟨by rw [HNX.out]; exact e1, ?_⟩
       rw [List.map_append, HCO0.out, List.range_succ, List.map_append]
       show _ ++ [cs] = _ ++ [colF nm z3 k0 k1 i]
       rw [e2, HCF.out]
      generalize w5.setCell ⟨cb, 5, none⟩ (.slice (some ⟨g5, 0, none⟩) (i + 1) cap5) = X6 at *
      clear HO1 HG5 HOW5 c55 f55 c5 HCW HDD HKB HKY HOC HPG HPL HSB HLC
      go_wp2
      go_roundw
      case measure => simp [intOf]; omega
      case rel => exact ⟨i + 1, P, _, _, by omega, by simp, HC6.out, HL6.out, HS6.out, HP6.out, HG6.out, HK6.out⟩
  ·by_cases hkz : i < z4
   ·have hov : decide (8 * n < P) = true := decide_eq_true (by omega)
    rw [hov] at so
    have hltI2 : (i : Int) < (z4 : Int) := by omega
    obtain ⟨RP, hRP⟩ : ∃ p, p = posC z3 k0 k1 z4 := ⟨_, rfl⟩
    have hRPl : RP ≤ 4000080 := by rw [hRP]; have := posC_le z3 k0 k1 (by omega) k0l k1l z4; have : z4 * 40000 ≤ 100 * 40000 := Nat.mul_le_mul_right _ (by omega); omega
    have HPL0 : Hid (P ≤ 32 + (RP + 0 * (1 + k1))) := by
     show P ≤ _
     have h1 := HPL.out
     have h2 := posC_mono z3 k0 k1 hi
     rw [Nat.zero_mul, Nat.add_zero, hRP]
     omega
    have HPG0 : Hid (P ≤ 8 * n → P = 32 + (RP + 0 * (1 + k1)) ∧ [] = (List.range 0).map (regF nm RP k1) ∧ cols.map ClD.cs = (List.range z4).map (colF nm z3 k0 k1)) := by
     intro hle
     have hiz : i = z4 := by omega
     obtain ⟨e1, e2⟩ := HPG.out hle
     rw [hiz] at e1 e2
     refine ⟨by rw [Nat.zero_mul, Nat.add_zero, hRP]; exact e1, rfl, e2⟩
    have HLC2 : Hid (cols.length ≤ 100 ∧ ∀ d, d ∈ cols → d.cs.length ≤ 500) := ⟨by rw [HLC.out.1]; omega, HLC.out.2⟩
    have HRPE := hidden hRP
    obtain ⟨s1, hs1⟩ : ∃ s : Nat, s = 2 + z3 := ⟨_, rfl⟩
    have SRC1 : Hid (∀ w', Calls Tryd.prog 14 #[.agg #[.int .i64 (z0 : Int), .int .i64 (z1 : Int), .int .i64 (z2 : Int), .int .i64 (z3 : Int), .int .i64 (z4 : Int)], .int .i64 (-1)] w' fun e w'' => e = .returned (.int .i64 (s1 : Int)) ∧ Below w'.heap.size w' w'') := fun w' => by
     have h := sources_doc w' sh (-1) HFIT.out
     have e : sh.src (-1) = (s1 : Int) := by
      rw [HSH.out, hs1]
      unfold ShD.src
      rw [if_neg (by omega)]
      simp
     rw [e, HSH.out] at h
     exact h
    have BIT1 : Hid (∀ w', Calls Tryd.prog 13 #[.int .i64 (s1 : Int)] w' fun e w'' => e = .returned (.int .i64 (k1 : Int)) ∧ w'' = w') := fun w' => by
     have h := bits_doc w' s1 (by omega)
     have e : wid s1 = k1 := by rw [hs1]; exact HW1.out
     rw [e] at h
     exact h
    clear HPL HPG HLC hRP hs1 hi hgo
    go_wp2_with fail
    clear so y4
    go_loopw [15] (fun j' w' => ∃ (j P : Nat) (v2 : Value) (regs : List RgD), j ≤ z2 ∧ j' = .int .i64 j ∧ Hid (CbAt base w' cb sh v1' v2 (.slice none 0 0) cols regs []) ∧ Hid (regs.length = j) ∧ Hid (Blk w' sb 48 (stQ (some ⟨ab, ao, none⟩) bd c P)) ∧ Hid (P ≤ 32 + (RP + j * (1 + k1))) ∧ Hid (P ≤ 8 * n → P = 32 + (RP + j * (1 + k1)) ∧ regs = (List.range j).map (regF nm RP k1) ∧ cols.map ClD.cs = (List.range z4).map (colF nm z3 k0 k1)) ∧ Hid (Kp [sb, cb] W1 w')) (fun j' _ => z2 - (intOf j').toNat)
    case atStart => exact ⟨0, P, _, [], Nat.zero_le _, rfl, HCB.out, rfl, HSB.out, HPL0.out, HPG0.out, HKW.out⟩
    case round =>
     clear HCB HSB HPL0 HPG0 HKW
     obtain ⟨j, P, v2, regs, hj, rfl, HCB, HLR, HSB, HPL, HPG, HKW⟩ := hrel
     have y2 : wr.cell? ⟨sx, 2, none⟩ = some (.int .i64 (z2 : Int)) := (KSX.out _ HKW.out).cell rfl
     by_cases hlt : j < z2
     ·have hltI : (j : Int) < (z2 : Int) := by omega
      have ej : IntKind.i64.wrap ((j : Int) + 1) = (j : Int) + 1 := wrapI _ (by omega) (by omega)
      have TK := hidden (TAKG.out wr P 1 HSB.out HKW.out (by omega))
      obtain ⟨on, HON⟩ : ∃ b, Hid (b = takeV bd P 1) := ⟨_, rfl⟩
      rw [← HON.out] at TK
      obtain ⟨xi, hxi⟩ : ∃ b, (((on : Nat) : Int) == 1) = b := ⟨_, rfl⟩
      have HXI := hidden hxi
      obtain ⟨xs, HXS⟩ : ∃ b, Hid (b = takeV bd (P + 1) k1) := ⟨_, rfl⟩
      have HLR2 : Hid ((regs ++ [(⟨(xs : Int), xi⟩ : RgD)]).length = j + 1) := by show _ = _; rw [List.length_append, HLR.out]; rfl
      have HPL2 : Hid (P + 1 + k1 ≤ 32 + (RP + (j + 1) * (1 + k1))) := by
       show _ ≤ _
       have := HPL.out
       rw [Nat.add_mul, Nat.one_mul]
       omega
      have HPG2 : Hid (P + 1 + k1 ≤ 8 * n → P + 1 + k1 = 32 + (RP + (j + 1) * (1 + k1)) ∧ regs ++ [(⟨(xs : Int), xi⟩ : RgD)] = (List.range (j + 1)).map (regF nm RP k1) ∧ cols.map ClD.cs = (List.range z4).map (colF nm z3 k0 k1)) := by
       intro hle
       obtain ⟨e1, e2, e3⟩ := HPG.out (by omega)
       refine ⟨by rw [e1, Nat.add_mul, Nat.one_mul]; omega, ?_, e3⟩
       rw [List.range_succ, List.map_append, ← e2]
       congr 1
       show [(⟨(xs : Int), xi⟩ : RgD)] = [regF nm RP k1 j]
       unfold regF
       have h1 : on = nm (RP + j * (1 + k1)) 1 := by
        rw [HON.out]
        unfold takeV
        rw [HBDL.out, if_pos (by omega), e1, HNN.out]
       have h2 : xs = nm (RP + j * (1 + k1) + 1) k1 := by
        rw [HXS.out]
        unfold takeV
        rw [HBDL.out, if_pos (by omega), e1, Nat.add_assoc 32, HNN.out]
       rw [h2, ← HXI.out, h1]
       congr 2
       rw [Bool.eq_iff_iff]
       simp only [beq_iff_eq, decide_eq_true_eq]
       omega
      clear HPL HPG
      go_wp2_with fail
      clear y2
      go_at_call 21
      refine TK.out.mono ?_
      rintro e wr0 ⟨rfl, hb, hk1⟩
      have HCB' : Hid (CbAt base wr0 cb sh v1' v2 (.slice none 0 0) cols regs []) := HCB.out.but hb (by omega) (by omega)
      have HKW' : Hid (Kp [sb, cb] W1 wr0) := HKW.out.trans (hb.kp (by simp))
      have HSB' := hidden hk1
      clear hb hk1 TK HCB HKW HSB
      have HCB := HCB'
      have HKW := HKW'
      have HSB := HSB'
      clear HCB' HKW' HSB'
      have TK2 : Hid (∀ v, Below wr0.heap.size wr0 v → Calls Tryd.prog 21 #[.pointer (some ⟨sb, 0, none⟩), .int .i64 (k1 : Int)] v fun e w' => e = .returned (.int .i64 (xs : Int)) ∧ But sb v w' ∧ Blk w' sb 48 (stQ (some ⟨ab, ao, none⟩) bd c (P + 1 + k1))) := fun v hv => by rw [HXS.out]; exact TAKG.out v (P + 1) k1 (HSB.out.below hv) (HKW.out.trans (Below.kp hv)) k1l
      have KS : Hid (∀ w', Kp [sb, cb] W1 w' → (fun w' => w'.cell? ⟨sx, 0, none⟩ = some (.int .i64 (z0 : Int)) ∧ w'.cell? ⟨sx, 1, none⟩ = some (.int .i64 (z1 : Int)) ∧ w'.cell? ⟨sx, 2, none⟩ = some (.int .i64 (z2 : Int)) ∧ w'.cell? ⟨sx, 3, none⟩ = some (.int .i64 (z3 : Int)) ∧ w'.cell? ⟨sx, 4, none⟩ = some (.int .i64 (z4 : Int))) w') := fun w' hw' => ⟨(KSX.out _ hw').cell rfl, (KSX.out _ hw').cell rfl, (KSX.out _ hw').cell rfl, (KSX.out _ hw').cell rfl, (KSX.out _ hw').cell rfl⟩
      have HKD : Hid (Kp [sb, cb] W1 wr0.drew) := HKW.out.drew
      have q1 : wr0.cell? ⟨cb, 6, none⟩ = some v2 := HCB.out.box.cell rfl
      have hm1 : j + 1 ≤ maxLen := by simp only [maxLen]; omega
      have hm2 : (j + 1) * 16 ≤ 140737488355328 := by omega
      go_wp2_with fail
      refine wp_region_noPanic ?_
      refine wp_region_held_drew (S := (fun w' => w'.cell? ⟨sx, 0, none⟩ = some (.int .i64 (z0 : Int)) ∧ w'.cell? ⟨sx, 1, none⟩ = some (.int .i64 (z1 : Int)) ∧ w'.cell? ⟨sx, 2, none⟩ = some (.int .i64 (z2 : Int)) ∧ w'.cell? ⟨sx, 3, none⟩ = some (.int .i64 (z3 : Int)) ∧ w'.cell? ⟨sx, 4, none⟩ = some (.int .i64 (z4 : Int)))) (by kernel_rfl) (by first | exact KS.out _ HK2.out | exact KS.out _ HK1.out | exact KS.out _ HKt2.out | exact KS.out _ HKt1.out | exact KS.out _ HKD.out) (fun hHeld => ?_)
      refine tk 0 ?_
      refine tk 2 ?_
      refine tk 3 ?_
      refine tk 4 ?_
      refine tk 5 ?_
      refine wpAnyH_ready (rs := [1, 6]) (by kernel_rfl) (by simp) ?_
      refine AllReadyH.cons (o := _) rfl (fun K hK => ?_) ?_
      ·(try simp only [gA, gB, gC])
       go_simp
       refine hK.out _ _ (by first | exact KS.out _ HK2.out | exact KS.out _ HK1.out | exact KS.out _ HKt2.out | exact KS.out _ HKt1.out | exact KS.out _ HKD.out) (fun hHeld4 => ?_)
       clear hK K
       (try simp only [Act.put]); (try simp only [sA]); (try simp only [sB, sC])
       refine wpAnyH_ready (rs := [6]) (by kernel_rfl) (by simp) ?_
       refine AllReadyH.cons (o := _) rfl (fun K hK => ?_) AllReadyH.nil
       (try simp only [gA, gB, gC])
       go_simp
       go_at_call 14
       refine (SRC1.out _).mono ?_
       rintro e t1 ⟨rfl, hb1⟩
       have HB1 : Hid (Below wr0.heap.size wr0 t1) := ⟨hb1.os, hb1.tape, hb1.output, hb1.size, hb1.block⟩
       have HKt1 : Hid (Kp [sb, cb] W1 t1) := HKW.out.trans (Below.kp HB1.out)
       have q1' : t1.cell? ⟨cb, 6, none⟩ = some v2 := (HCB.out.box.below HB1.out).cell rfl
       clear hb1
       go_wp2_with fail
       refine hK.out _ _ (by exact KS.out _ HKt1.out) (fun hHeld6 => ?_)
       clear hK K
       (try simp only [Act.put]); (try simp only [sA]); (try simp only [sB, sC])
       refine wpAnyH_ready (rs := [7]) (by kernel_rfl) (by simp) ?_
       refine AllReadyH.cons (o := _) rfl (fun K hK => ?_) AllReadyH.nil
       (try simp only [gA, gB, gC])
       go_simp
       go_at_call 13
       refine (BIT1.out _).mono ?_
       rintro e t2 ⟨rfl, ht2⟩
       have HB2 : Hid (Below wr0.heap.size wr0 t2) := by rw [ht2]; exact HB1.out
       have HKt2 : Hid (Kp [sb, cb] W1 t2) := by rw [ht2]; exact HKt1.out
       have q2' : t2.cell? ⟨cb, 6, none⟩ = some v2 := by rw [ht2]; exact q1'
       clear ht2
       go_wp2_with fail
       refine hK.out _ _ (by exact KS.out _ HKt2.out) (fun hHeld7 => ?_)
       clear hK K
       (try simp only [Act.put]); (try simp only [sA]); (try simp only [sB, sC])
       refine wpAnyH_ready (rs := [8]) (by kernel_rfl) (by simp) ?_
       refine AllReadyH.cons (o := _) rfl (fun K hK => ?_) AllReadyH.nil
       (try simp only [gA, gB, gC])
       go_simp
       go_at_call 21
       refine (TK2.out t2 HB2.out).mono ?_
       rintro e v ⟨rfl, h1', h2'⟩
       have HK1 : Hid (Kp [sb, cb] W1 v) := HKt2.out.trans (h1'.kp (by simp))
       have HC1 : Hid (CbAt base v cb sh v1' v2 (.slice none 0 0) cols regs []) := (HCB.out.kp (gs := [sb]) (Below.kp HB2.out) (by simp; omega) (by intro g hg; simp at hg; left; omega)).but h1' (by omega) (by omega)
       have HL1 := hidden h2'
       have HO1 : Hid (v.ownsRow base 57 2 v2 j (regs.flatMap RgD.cells)) := by have := HC1.out.o2; rwa [HLR.out] at this
       have HO2 := hidden (HO1.out.alloc (.cells #[.int .i64 (xs : Int), .bool xi] 57))
       have HZ2w : Hid (base ≤ (v.alloc (.cells #[.int .i64 (xs : Int), .bool xi] 57)).heap.size) := by have := HK1.out.size; show base ≤ _; simp; omega
       have q2v : v.cell? ⟨cb, 6, none⟩ = some v2 := HC1.out.box.cell rfl
       have HK2 : Hid (Kp [sb, cb] W1 (v.alloc (.cells #[.int .i64 (xs : Int), .bool xi] 57))) := HK1.out.trans (Below.kp ((Below.refl _ _).alloc (Nat.le_refl _) _))
       have q3v : (v.alloc (.cells #[.int .i64 (xs : Int), .bool xi] 57)).cell? ⟨cb, 6, none⟩ = some v2 := (HC1.out.box.below ((Below.refl _ _).alloc (Nat.le_refl _) _)).cell rfl
       clear h1' h2' 
       go_wp2_with fail
       refine hK.out _ _ (by exact KS.out _ HK1.out) (fun hHeld8 => ?_)
       clear hK K
       (try simp only [Act.put]); (try simp only [sA]); (try simp only [sB, sC])
       refine tk 9 ?_
       refine wpAnyH_ready (rs := [10]) (by kernel_rfl) (by simp) ?_
       refine AllReadyH.cons (o := _) rfl (fun K hK => ?_) AllReadyH.nil
       (try simp only [gA, gB, gC])
       go_simp
       refine hK.out _ _ (by exact KS.out _ HK2.out) (fun hHeld10 => ?_)
       clear hK K
       (try simp only [Act.put]); (try simp only [sA]); (try simp only [sB, sC])
       refine wpAnyH_ready (rs := [11]) (by kernel_rfl) (by simp) ?_
       refine AllReadyH.cons (o := _) rfl (fun K hK => ?_) AllReadyH.nil
       refine step_append_lies _ rfl (.tmp 135) (.tmp 144) 29 rfl base 57 i2 _ 2 16 Tryd.underlying29 HI2.out HZ2i.out HS2.out HY2.out rfl (by decide) v2 j _ rfl HO2.out ⟨v.heap.size, 0, none⟩ 1 1 [.int .i64 (xs : Int), .bool xi] rfl rfl (World.news_of_block (heap_new _ _)) (by simp [Value.oneCell']) (by decide) hm1 hm2 HZ2w.out _ rfl ?_
       intro g5 cap w5 hown hgrow hat hlt5
       have HG5 : Hid (v.grownBy w5 v2.ownBlock) := grown_trans (World.grownBy_alloc _ _ _) hgrow
       have HOW := hidden hown
       have HK5 : Hid (Kp [sb, cb] W1 w5) := HK1.out.grow HG5.out (fun k hk => by have := (HO1.out.lt k hk).1; omega)
       have hB5 : Blk w5 cb 32 _ := (HG5.out.block cb HC1.out.box.lt (fun e => by have := (HO1.out.lt cb e.symm).1; have := HC1.out.lt; omega)).trans HC1.out.box
       have c5 : w5.cell? ⟨cb, 6, none⟩ = some v2 := hB5.cell rfl
       have f5 := hB5.frozen 6
       clear hown hgrow hat hlt5 hB5
       have HK6 : Hid (Kp [sb, cb] W1 (w5.setCell ⟨cb, 6, none⟩ (.slice (some ⟨g5, 0, none⟩) (j + 1) cap))) := HK5.out.trans (Kp.set _ _ _ _ _ (by simp))
       refine hK.out _ _ (by exact KS.out _ HK5.out) (fun hHeld11 => ?_)
       clear hK K
       (try simp only [Act.put]); (try simp only [sA]); (try simp only [sB, sC])
       refine tk 12 ?_
       refine wpAnyH_ready (rs := [13]) (by kernel_rfl) (by simp) ?_
       refine AllReadyH.cons (o := _) rfl (fun K hK => ?_) AllReadyH.nil
       (try simp only [gA, gB, gC])
       go_simp
       refine hK.out _ _ (by exact KS.out _ HK6.out) (fun hHeld14 => ?_)
       clear hK K
       (try simp only [Act.put]); (try simp only [sA]); (try simp only [sB, sC])
       refine wpAnyH_done (by kernel_rfl) ?_ _
       refine NoPanic.normal ?_
       have HC6 : Hid (CbAt base (w5.setCell ⟨cb, 6, none⟩ (.slice (some ⟨g5, 0, none⟩) (j + 1) cap)) cb sh v1' (.slice (some ⟨g5, 0, none⟩) (j + 1) cap) (.slice none 0 0) cols (regs ++ [⟨(xs : Int), xi⟩]) []) := HC1.out.push2 (d := ⟨(xs : Int), xi⟩) (u := .slice (some ⟨g5, 0, none⟩) (j + 1) cap) (by rw [HLR.out]; exact HOW.out) HG5.out
       have HLB : Hid (Blk (w5.setCell ⟨cb, 6, none⟩ (.slice (some ⟨g5, 0, none⟩) (j + 1) cap)) sb 48 (stQ (some ⟨ab, ao, none⟩) bd c (P + 1 + k1))) := (But.set cb 6 w5 _).blk ((HG5.out.block sb HL1.out.lt (fun e => by have := (HO1.out.lt sb e.symm).1; omega)).trans HL1.out) (by omega)
       generalize w5.setCell ⟨cb, 6, none⟩ (.slice (some ⟨g5, 0, none⟩) (j + 1) cap) = X6 at *
       clear HO1 HO2 HG5 HOW c5 f5 q2v q3v HC1 HL1 HK5 HK1 HK2 HKt1 HKt2 HB1 HB2
       go_wp2
       go_roundw
       case measure => simp [intOf]; omega
       case rel => exact ⟨j + 1, P + 1 + k1, _, _, by omega, by simp, HC6.out, HLR2.out, HLB.out, HPL2.out, HPG2.out, HK6.out⟩
      refine AllReadyH.cons (o := _) rfl (fun K hK => ?_) AllReadyH.nil
      (try simp only [gA, gB, gC])
      go_simp
      go_at_call 14
      refine (SRC1.out _).mono ?_
      rintro e t1 ⟨rfl, hb1⟩
      have HB1 : Hid (Below wr0.heap.size wr0 t1) := ⟨hb1.os, hb1.tape, hb1.output, hb1.size, hb1.block⟩
      have HKt1 : Hid (Kp [sb, cb] W1 t1) := HKW.out.trans (Below.kp HB1.out)
      have q1' : t1.cell? ⟨cb, 6, none⟩ = some v2 := (HCB.out.box.below HB1.out).cell rfl
      clear hb1
      go_wp2_with fail
      refine hK.out _ _ (by exact KS.out _ HKt1.out) (fun hHeld6 => ?_)
      clear hK K
      (try simp only [Act.put]); (try simp only [sA]); (try simp only [sB, sC])
      refine wpAnyH_ready (rs := [1, 7]) (by kernel_rfl) (by simp) ?_
      refine AllReadyH.cons (o := _) rfl (fun K hK => ?_) ?_
      ·(try simp only [gA, gB, gC])
       go_simp
       refine hK.out _ _ (by first | exact KS.out _ HK2.out | exact KS.out _ HK1.out | exact KS.out _ HKt2.out | exact KS.out _ HKt1.out | exact KS.out _ HKD.out) (fun hHeld4 => ?_)
       clear hK K
       (try simp only [Act.put]); (try simp only [sA]); (try simp only [sB, sC])
       refine wpAnyH_ready (rs := [7]) (by kernel_rfl) (by simp) ?_
       refine AllReadyH.cons (o := _) rfl (fun K hK => ?_) AllReadyH.nil
       (try simp only [gA, gB, gC])
       go_simp
       go_at_call 13
       refine (BIT1.out _).mono ?_
       rintro e t2 ⟨rfl, ht2⟩
       have HB2 : Hid (Below wr0.heap.size wr0 t2) := by rw [ht2]; exact HB1.out
       have HKt2 : Hid (Kp [sb, cb] W1 t2) := by rw [ht2]; exact HKt1.out
       have q2' : t2.cell? ⟨cb, 6, none⟩ = some v2 := by rw [ht2]; exact q1'
       clear ht2
       go_wp2_with fail
       refine hK.out _ _ (by exact KS.out _ HKt2.out) (fun hHeld7 => ?_)
       clear hK K
       (try simp only [Act.put]); (try simp only [sA]); (try simp only [sB, sC])
       refine wpAnyH_ready (rs := [8]) (by kernel_rfl) (by simp) ?_
       refine AllReadyH.cons (o := _) rfl (fun K hK => ?_) AllReadyH.nil
       (try simp only [gA, gB, gC])
       go_simp
       go_at_call 21
       refine (TK2.out t2 HB2.out).mono ?_
       rintro e v ⟨rfl, h1', h2'⟩
       have HK1 : Hid (Kp [sb, cb] W1 v) := HKt2.out.trans (h1'.kp (by simp))
       have HC1 : Hid (CbAt base v cb sh v1' v2 (.slice none 0 0) cols regs []) := (HCB.out.kp (gs := [sb]) (Below.kp HB2.out) (by simp; omega) (by intro g hg; simp at hg; left; omega)).but h1' (by omega) (by omega)
       have HL1 := hidden h2'
       have HO1 : Hid (v.ownsRow base 57 2 v2 j (regs.flatMap RgD.cells)) := by have := HC1.out.o2; rwa [HLR.out] at this
       have HO2 := hidden (HO1.out.alloc (.cells #[.int .i64 (xs : Int), .bool xi] 57))
       have HZ2w : Hid (base ≤ (v.alloc (.cells #[.int .i64 (xs : Int), .bool xi] 57)).heap.size) := by have := HK1.out.size; show base ≤ _; simp; omega
       have q2v : v.cell? ⟨cb, 6, none⟩ = some v2 := HC1.out.box.cell rfl
       have HK2 : Hid (Kp [sb, cb] W1 (v.alloc (.cells #[.int .i64 (xs : Int), .bool xi] 57))) := HK1.out.trans (Below.kp ((Below.refl _ _).alloc (Nat.le_refl _) _))
       have q3v : (v.alloc (.cells #[.int .i64 (xs : Int), .bool xi] 57)).cell? ⟨cb, 6, none⟩ = some v2 := (HC1.out.box.below ((Below.refl _ _).alloc (Nat.le_refl _) _)).cell rfl
       clear h1' h2' 
       go_wp2_with fail
       refine hK.out _ _ (by exact KS.out _ HK1.out) (fun hHeld8 => ?_)
       clear hK K
       (try simp only [Act.put]); (try simp only [sA]); (try simp only [sB, sC])
       refine tk 9 ?_
       refine wpAnyH_ready (rs := [10]) (by kernel_rfl) (by simp) ?_
       refine AllReadyH.cons (o := _) rfl (fun K hK => ?_) AllReadyH.nil
       (try simp only [gA, gB, gC])
       go_simp
       refine hK.out _ _ (by exact KS.out _ HK2.out) (fun hHeld10 => ?_)
       clear hK K
       (try simp only [Act.put]); (try simp only [sA]); (try simp only [sB, sC])
       refine wpAnyH_ready (rs := [11]) (by kernel_rfl) (by simp) ?_
       refine AllReadyH.cons (o := _) rfl (fun K hK => ?_) AllReadyH.nil
       refine step_append_lies _ rfl (.tmp 135) (.tmp 144) 29 rfl base 57 i2 _ 2 16 Tryd.underlying29 HI2.out HZ2i.out HS2.out HY2.out rfl (by decide) v2 j _ rfl HO2.out ⟨v.heap.size, 0, none⟩ 1 1 [.int .i64 (xs : Int), .bool xi] rfl rfl (World.news_of_block (heap_new _ _)) (by simp [Value.oneCell']) (by decide) hm1 hm2 HZ2w.out _ rfl ?_
       intro g5 cap w5 hown hgrow hat hlt5
       have HG5 : Hid (v.grownBy w5 v2.ownBlock) := grown_trans (World.grownBy_alloc _ _ _) hgrow
       have HOW := hidden hown
       have HK5 : Hid (Kp [sb, cb] W1 w5) := HK1.out.grow HG5.out (fun k hk => by have := (HO1.out.lt k hk).1; omega)
       have hB5 : Blk w5 cb 32 _ := (HG5.out.block cb HC1.out.box.lt (fun e => by have := (HO1.out.lt cb e.symm).1; have := HC1.out.lt; omega)).trans HC1.out.box
       have c5 : w5.cell? ⟨cb, 6, none⟩ = some v2 := hB5.cell rfl
       have f5 := hB5.frozen 6
       clear hown hgrow hat hlt5 hB5
       have HK6 : Hid (Kp [sb, cb] W1 (w5.setCell ⟨cb, 6, none⟩ (.slice (some ⟨g5, 0, none⟩) (j + 1) cap))) := HK5.out.trans (Kp.set _ _ _ _ _ (by simp))
       refine hK.out _ _ (by exact KS.out _ HK5.out) (fun hHeld11 => ?_)
       clear hK K
       (try simp only [Act.put]); (try simp only [sA]); (try simp only [sB, sC])
       refine tk 12 ?_
       refine wpAnyH_ready (rs := [13]) (by kernel_rfl) (by simp) ?_
       refine AllReadyH.cons (o := _) rfl (fun K hK => ?_) AllReadyH.nil
       (try simp only [gA, gB, gC])
       go_simp
       refine hK.out _ _ (by exact KS.out _ HK6.out) (fun hHeld14 => ?_)
       clear hK K
       (try simp only [Act.put]); (try simp only [sA]); (try simp only [sB, sC])
       refine wpAnyH_done (by kernel_rfl) ?_ _
       refine NoPanic.normal ?_
       have HC6 : Hid (CbAt base (w5.setCell ⟨cb, 6, none⟩ (.slice (some ⟨g5, 0, none⟩) (j + 1) cap)) cb sh v1' (.slice (some ⟨g5, 0, none⟩) (j + 1) cap) (.slice none 0 0) cols (regs ++ [⟨(xs : Int), xi⟩]) []) := HC1.out.push2 (d := ⟨(xs : Int), xi⟩) (u := .slice (some ⟨g5, 0, none⟩) (j + 1) cap) (by rw [HLR.out]; exact HOW.out) HG5.out
       have HLB : Hid (Blk (w5.setCell ⟨cb, 6, none⟩ (.slice (some ⟨g5, 0, none⟩) (j + 1) cap)) sb 48 (stQ (some ⟨ab, ao, none⟩) bd c (P + 1 + k1))) := (But.set cb 6 w5 _).blk ((HG5.out.block sb HL1.out.lt (fun e => by have := (HO1.out.lt sb e.symm).1; omega)).trans HL1.out) (by omega)
       generalize w5.setCell ⟨cb, 6, none⟩ (.slice (some ⟨g5, 0, none⟩) (j + 1) cap) = X6 at *
       clear HO1 HO2 HG5 HOW c5 f5 q2v q3v HC1 HL1 HK5 HK1 HK2 HKt1 HKt2 HB1 HB2
       go_wp2
       go_roundw
       case measure => simp [intOf]; omega
       case rel => exact ⟨j + 1, P + 1 + k1, _, _, by omega, by simp, HC6.out, HLR2.out, HLB.out, HPL2.out, HPG2.out, HK6.out⟩
      refine AllReadyH.cons (o := _) rfl (fun K hK => ?_) AllReadyH.nil
      (try simp only [gA, gB, gC])
      go_simp
      go_at_call 13
      refine (BIT1.out _).mono ?_
      rintro e t2 ⟨rfl, ht2⟩
      have HB2 : Hid (Below wr0.heap.size wr0 t2) := by rw [ht2]; exact HB1.out
      have HKt2 : Hid (Kp [sb, cb] W1 t2) := by rw [ht2]; exact HKt1.out
      have q2' : t2.cell? ⟨cb, 6, none⟩ = some v2 := by rw [ht2]; exact q1'
      clear ht2
      go_wp2_with fail
      refine hK.out _ _ (by exact KS.out _ HKt2.out) (fun hHeld7 => ?_)
      clear hK K
      (try simp only [Act.put]); (try simp only [sA]); (try simp only [sB, sC])
      refine wpAnyH_ready (rs := [1, 8]) (by kernel_rfl) (by simp) ?_
      refine AllReadyH.cons (o := _) rfl (fun K hK => ?_) ?_
      ·(try simp only [gA, gB, gC])
       go_simp
       refine hK.out _ _ (by first | exact KS.out _ HK2.out | exact KS.out _ HK1.out | exact KS.out _ HKt2.out | exact KS.out _ HKt1.out | exact KS.out _ HKD.out) (fun hHeld4 => ?_)
       clear hK K
       (try simp only [Act.put]); (try simp only [sA]); (try simp only [sB, sC])
       refine wpAnyH_ready (rs := [8]) (by kernel_rfl) (by simp) ?_
       refine AllReadyH.cons (o := _) rfl (fun K hK => ?_) AllReadyH.nil
       (try simp only [gA, gB, gC])
       go_simp
       go_at_call 21
       refine (TK2.out t2 HB2.out).mono ?_
       rintro e v ⟨rfl, h1', h2'⟩
       have HK1 : Hid (Kp [sb, cb] W1 v) := HKt2.out.trans (h1'.kp (by simp))
       have HC1 : Hid (CbAt base v cb sh v1' v2 (.slice none 0 0) cols regs []) := (HCB.out.kp (gs := [sb]) (Below.kp HB2.out) (by simp; omega) (by intro g hg; simp at hg; left; omega)).but h1' (by omega) (by omega)
       have HL1 := hidden h2'
       have HO1 : Hid (v.ownsRow base 57 2 v2 j (regs.flatMap RgD.cells)) := by have := HC1.out.o2; rwa [HLR.out] at this
       have HO2 := hidden (HO1.out.alloc (.cells #[.int .i64 (xs : Int), .bool xi] 57))
       have HZ2w : Hid (base ≤ (v.alloc (.cells #[.int .i64 (xs : Int), .bool xi] 57)).heap.size) := by have := HK1.out.size; show base ≤ _; simp; omega
       have q2v : v.cell? ⟨cb, 6, none⟩ = some v2 := HC1.out.box.cell rfl
       have HK2 : Hid (Kp [sb, cb] W1 (v.alloc (.cells #[.int .i64 (xs : Int), .bool xi] 57))) := HK1.out.trans (Below.kp ((Below.refl _ _).alloc (Nat.le_refl _) _))
       have q3v : (v.alloc (.cells #[.int .i64 (xs : Int), .bool xi] 57)).cell? ⟨cb, 6, none⟩ = some v2 := (HC1.out.box.below ((Below.refl _ _).alloc (Nat.le_refl _) _)).cell rfl
       clear h1' h2' 
       go_wp2_with fail
       refine hK.out _ _ (by exact KS.out _ HK1.out) (fun hHeld8 => ?_)
       clear hK K
       (try simp only [Act.put]); (try simp only [sA]); (try simp only [sB, sC])
       refine tk 9 ?_
       refine wpAnyH_ready (rs := [10]) (by kernel_rfl) (by simp) ?_
       refine AllReadyH.cons (o := _) rfl (fun K hK => ?_) AllReadyH.nil
       (try simp only [gA, gB, gC])
       go_simp
       refine hK.out _ _ (by exact KS.out _ HK2.out) (fun hHeld10 => ?_)
       clear hK K
       (try simp only [Act.put]); (try simp only [sA]); (try simp only [sB, sC])
       refine wpAnyH_ready (rs := [11]) (by kernel_rfl) (by simp) ?_
       refine AllReadyH.cons (o := _) rfl (fun K hK => ?_) AllReadyH.nil
       refine step_append_lies _ rfl (.tmp 135) (.tmp 144) 29 rfl base 57 i2 _ 2 16 Tryd.underlying29 HI2.out HZ2i.out HS2.out HY2.out rfl (by decide) v2 j _ rfl HO2.out ⟨v.heap.size, 0, none⟩ 1 1 [.int .i64 (xs : Int), .bool xi] rfl rfl (World.news_of_block (heap_new _ _)) (by simp [Value.oneCell']) (by decide) hm1 hm2 HZ2w.out _ rfl ?_
       intro g5 cap w5 hown hgrow hat hlt5
       have HG5 : Hid (v.grownBy w5 v2.ownBlock) := grown_trans (World.grownBy_alloc _ _ _) hgrow
       have HOW := hidden hown
       have HK5 : Hid (Kp [sb, cb] W1 w5) := HK1.out.grow HG5.out (fun k hk => by have := (HO1.out.lt k hk).1; omega)
       have hB5 : Blk w5 cb 32 _ := (HG5.out.block cb HC1.out.box.lt (fun e => by have := (HO1.out.lt cb e.symm).1; have := HC1.out.lt; omega)).trans HC1.out.box
       have c5 : w5.cell? ⟨cb, 6, none⟩ = some v2 := hB5.cell rfl
       have f5 := hB5.frozen 6
       clear hown hgrow hat hlt5 hB5
       have HK6 : Hid (Kp [sb, cb] W1 (w5.setCell ⟨cb, 6, none⟩ (.slice (some ⟨g5, 0, none⟩) (j + 1) cap))) := HK5.out.trans (Kp.set _ _ _ _ _ (by simp))
       refine hK.out _ _ (by exact KS.out _ HK5.out) (fun hHeld11 => ?_)
       clear hK K
       (try simp only [Act.put]); (try simp only [sA]); (try simp only [sB, sC])
       refine tk 12 ?_
       refine wpAnyH_ready (rs := [13]) (by kernel_rfl) (by simp) ?_
       refine AllReadyH.cons (o := _) rfl (fun K hK => ?_) AllReadyH.nil
       (try simp only [gA, gB, gC])
       go_simp
       refine hK.out _ _ (by exact KS.out _ HK6.out) (fun hHeld14 => ?_)
       clear hK K
       (try simp only [Act.put]); (try simp only [sA]); (try simp only [sB, sC])
       refine wpAnyH_done (by kernel_rfl) ?_ _
       refine NoPanic.normal ?_
       have HC6 : Hid (CbAt base (w5.setCell ⟨cb, 6, none⟩ (.slice (some ⟨g5, 0, none⟩) (j + 1) cap)) cb sh v1' (.slice (some ⟨g5, 0, none⟩) (j + 1) cap) (.slice none 0 0) cols (regs ++ [⟨(xs : Int), xi⟩]) []) := HC1.out.push2 (d := ⟨(xs : Int), xi⟩) (u := .slice (some ⟨g5, 0, none⟩) (j + 1) cap) (by rw [HLR.out]; exact HOW.out) HG5.out
       have HLB : Hid (Blk (w5.setCell ⟨cb, 6, none⟩ (.slice (some ⟨g5, 0, none⟩) (j + 1) cap)) sb 48 (stQ (some ⟨ab, ao, none⟩) bd c (P + 1 + k1))) := (But.set cb 6 w5 _).blk ((HG5.out.block sb HL1.out.lt (fun e => by have := (HO1.out.lt sb e.symm).1; omega)).trans HL1.out) (by omega)
       generalize w5.setCell ⟨cb, 6, none⟩ (.slice (some ⟨g5, 0, none⟩) (j + 1) cap) = X6 at *
       clear HO1 HO2 HG5 HOW c5 f5 q2v q3v HC1 HL1 HK5 HK1 HK2 HKt1 HKt2 HB1 HB2
       go_wp2
       go_roundw
       case measure => simp [intOf]; omega
       case rel => exact ⟨j + 1, P + 1 + k1, _, _, by omega, by simp, HC6.out, HLR2.out, HLB.out, HPL2.out, HPG2.out, HK6.out⟩
      refine AllReadyH.cons (o := _) rfl (fun K hK => ?_) AllReadyH.nil
      (try simp only [gA, gB, gC])
      go_simp
      go_at_call 21
      refine (TK2.out t2 HB2.out).mono ?_
      rintro e v ⟨rfl, h1', h2'⟩
      have HK1 : Hid (Kp [sb, cb] W1 v) := HKt2.out.trans (h1'.kp (by simp))
      have HC1 : Hid (CbAt base v cb sh v1' v2 (.slice none 0 0) cols regs []) := (HCB.out.kp (gs := [sb]) (Below.kp HB2.out) (by simp; omega) (by intro g hg; simp at hg; left; omega)).but h1' (by omega) (by omega)
      have HL1 := hidden h2'
      have HO1 : Hid (v.ownsRow base 57 2 v2 j (regs.flatMap RgD.cells)) := by have := HC1.out.o2; rwa [HLR.out] at this
      have HO2 := hidden (HO1.out.alloc (.cells #[.int .i64 (xs : Int), .bool xi] 57))
      have HZ2w : Hid (base ≤ (v.alloc (.cells #[.int .i64 (xs : Int), .bool xi] 57)).heap.size) := by have := HK1.out.size; show base ≤ _; simp; omega
      have q2v : v.cell? ⟨cb, 6, none⟩ = some v2 := HC1.out.box.cell rfl
      have HK2 : Hid (Kp [sb, cb] W1 (v.alloc (.cells #[.int .i64 (xs : Int), .bool xi] 57))) := HK1.out.trans (Below.kp ((Below.refl _ _).alloc (Nat.le_refl _) _))
      have q3v : (v.alloc (.cells #[.int .i64 (xs : Int), .bool xi] 57)).cell? ⟨cb, 6, none⟩ = some v2 := (HC1.out.box.below ((Below.refl _ _).alloc (Nat.le_refl _) _)).cell rfl
      clear h1' h2' 
      go_wp2_with fail
      refine hK.out _ _ (by exact KS.out _ HK1.out) (fun hHeld8 => ?_)
      clear hK K
      (try simp only [Act.put]); (try simp only [sA]); (try simp only [sB, sC])
      refine tk 9 ?_
      refine wpAnyH_ready (rs := [1, 10]) (by kernel_rfl) (by simp) ?_
      refine AllReadyH.cons (o := _) rfl (fun K hK => ?_) ?_
      ·(try simp only [gA, gB, gC])
       go_simp
       refine hK.out _ _ (by first | exact KS.out _ HK2.out | exact KS.out _ HK1.out | exact KS.out _ HKt2.out | exact KS.out _ HKt1.out | exact KS.out _ HKD.out) (fun hHeld4 => ?_)
       clear hK K
       (try simp only [Act.put]); (try simp only [sA]); (try simp only [sB, sC])
       refine wpAnyH_ready (rs := [10]) (by kernel_rfl) (by simp) ?_
       refine AllReadyH.cons (o := _) rfl (fun K hK => ?_) AllReadyH.nil
       (try simp only [gA, gB, gC])
       go_simp
       refine hK.out _ _ (by exact KS.out _ HK2.out) (fun hHeld10 => ?_)
       clear hK K
       (try simp only [Act.put]); (try simp only [sA]); (try simp only [sB, sC])
       refine wpAnyH_ready (rs := [11]) (by kernel_rfl) (by simp) ?_
       refine AllReadyH.cons (o := _) rfl (fun K hK => ?_) AllReadyH.nil
       refine step_append_lies _ rfl (.tmp 135) (.tmp 144) 29 rfl base 57 i2 _ 2 16 Tryd.underlying29 HI2.out HZ2i.out HS2.out HY2.out rfl (by decide) v2 j _ rfl HO2.out ⟨v.heap.size, 0, none⟩ 1 1 [.int .i64 (xs : Int), .bool xi] rfl rfl (World.news_of_block (heap_new _ _)) (by simp [Value.oneCell']) (by decide) hm1 hm2 HZ2w.out _ rfl ?_
       intro g5 cap w5 hown hgrow hat hlt5
       have HG5 : Hid (v.grownBy w5 v2.ownBlock) := grown_trans (World.grownBy_alloc _ _ _) hgrow
       have HOW := hidden hown
       have HK5 : Hid (Kp [sb, cb] W1 w5) := HK1.out.grow HG5.out (fun k hk => by have := (HO1.out.lt k hk).1; omega)
       have hB5 : Blk w5 cb 32 _ := (HG5.out.block cb HC1.out.box.lt (fun e => by have := (HO1.out.lt cb e.symm).1; have := HC1.out.lt; omega)).trans HC1.out.box
       have c5 : w5.cell? ⟨cb, 6, none⟩ = some v2 := hB5.cell rfl
       have f5 := hB5.frozen 6
       clear hown hgrow hat hlt5 hB5
       have HK6 : Hid (Kp [sb, cb] W1 (w5.setCell ⟨cb, 6, none⟩ (.slice (some ⟨g5, 0, none⟩) (j + 1) cap))) := HK5.out.trans (Kp.set _ _ _ _ _ (by simp))
       refine hK.out _ _ (by exact KS.out _ HK5.out) (fun hHeld11 => ?_)
       clear hK K
       (try simp only [Act.put]); (try simp only [sA]); (try simp only [sB, sC])
       refine tk 12 ?_
       refine wpAnyH_ready (rs := [13]) (by kernel_rfl) (by simp) ?_
       refine AllReadyH.cons (o := _) rfl (fun K hK => ?_) AllReadyH.nil
       (try simp only [gA, gB, gC])
       go_simp
       refine hK.out _ _ (by exact KS.out _ HK6.out) (fun hHeld14 => ?_)
       clear hK K
       (try simp only [Act.put]); (try simp only [sA]); (try simp only [sB, sC])
       refine wpAnyH_done (by kernel_rfl) ?_ _
       refine NoPanic.normal ?_
       have HC6 : Hid (CbAt base (w5.setCell ⟨cb, 6, none⟩ (.slice (some ⟨g5, 0, none⟩) (j + 1) cap)) cb sh v1' (.slice (some ⟨g5, 0, none⟩) (j + 1) cap) (.slice none 0 0) cols (regs ++ [⟨(xs : Int), xi⟩]) []) := HC1.out.push2 (d := ⟨(xs : Int), xi⟩) (u := .slice (some ⟨g5, 0, none⟩) (j + 1) cap) (by rw [HLR.out]; exact HOW.out) HG5.out
       have HLB : Hid (Blk (w5.setCell ⟨cb, 6, none⟩ (.slice (some ⟨g5, 0, none⟩) (j + 1) cap)) sb 48 (stQ (some ⟨ab, ao, none⟩) bd c (P + 1 + k1))) := (But.set cb 6 w5 _).blk ((HG5.out.block sb HL1.out.lt (fun e => by have := (HO1.out.lt sb e.symm).1; omega)).trans HL1.out) (by omega)
       generalize w5.setCell ⟨cb, 6, none⟩ (.slice (some ⟨g5, 0, none⟩) (j + 1) cap) = X6 at *
       clear HO1 HO2 HG5 HOW c5 f5 q2v q3v HC1 HL1 HK5 HK1 HK2 HKt1 HKt2 HB1 HB2
       go_wp2
       go_roundw
       case measure => simp [intOf]; omega
       case rel => exact ⟨j + 1, P + 1 + k1, _, _, by omega, by simp, HC6.out, HLR2.out, HLB.out, HPL2.out, HPG2.out, HK6.out⟩
      refine AllReadyH.cons (o := _) rfl (fun K hK => ?_) AllReadyH.nil
      (try simp only [gA, gB, gC])
      go_simp
      refine hK.out _ _ (by exact KS.out _ HK2.out) (fun hHeld10 => ?_)
      clear hK K
      (try simp only [Act.put]); (try simp only [sA]); (try simp only [sB, sC])
      refine wpAnyH_ready (rs := [1]) (by kernel_rfl) (by simp) ?_
      refine AllReadyH.cons (o := _) rfl (fun K hK => ?_) AllReadyH.nil
      (try simp only [gA, gB, gC])
      go_simp
      refine hK.out _ _ (by first | exact KS.out _ HK2.out | exact KS.out _ HK1.out | exact KS.out _ HKt2.out | exact KS.out _ HKt1.out | exact KS.out _ HKD.out) (fun hHeld4 => ?_)
      clear hK K
      (try simp only [Act.put]); (try simp only [sA]); (try simp only [sB, sC])
      refine wpAnyH_ready (rs := [11]) (by kernel_rfl) (by simp) ?_
      refine AllReadyH.cons (o := _) rfl (fun K hK => ?_) AllReadyH.nil
      refine step_append_lies _ rfl (.tmp 135) (.tmp 144) 29 rfl base 57 i2 _ 2 16 Tryd.underlying29 HI2.out HZ2i.out HS2.out HY2.out rfl (by decide) v2 j _ rfl HO2.out ⟨v.heap.size, 0, none⟩ 1 1 [.int .i64 (xs : Int), .bool xi] rfl rfl (World.news_of_block (heap_new _ _)) (by simp [Value.oneCell']) (by decide) hm1 hm2 HZ2w.out _ rfl ?_
      intro g5 cap w5 hown hgrow hat hlt5
      have HG5 : Hid (v.grownBy w5 v2.ownBlock) := grown_trans (World.grownBy_alloc _ _ _) hgrow
      have HOW := hidden hown
      have HK5 : Hid (Kp [sb, cb] W1 w5) := HK1.out.grow HG5.out (fun k hk => by have := (HO1.out.lt k hk).1; omega)
      have hB5 : Blk w5 cb 32 _ := (HG5.out.block cb HC1.out.box.lt (fun e => by have := (HO1.out.lt cb e.symm).1; have := HC1.out.lt; omega)).trans HC1.out.box
      have c5 : w5.cell? ⟨cb, 6, none⟩ = some v2 := hB5.cell rfl
      have f5 := hB5.frozen 6
      clear hown hgrow hat hlt5 hB5
      have HK6 : Hid (Kp [sb, cb] W1 (w5.setCell ⟨cb, 6, none⟩ (.slice (some ⟨g5, 0, none⟩) (j + 1) cap))) := HK5.out.trans (Kp.set _ _ _ _ _ (by simp))
      refine hK.out _ _ (by exact KS.out _ HK5.out) (fun hHeld11 => ?_)
      clear hK K
      (try simp only [Act.put]); (try simp only [sA]); (try simp only [sB, sC])
      refine tk 12 ?_
      refine wpAnyH_ready (rs := [13]) (by kernel_rfl) (by simp) ?_
      refine AllReadyH.cons (o := _) rfl (fun K hK => ?_) AllReadyH.nil
      (try simp only [gA, gB, gC])
      go_simp
      refine hK.out _ _ (by exact KS.out _ HK6.out) (fun hHeld14 => ?_)
      clear hK K
      (try simp only [Act.put]); (try simp only [sA]); (try simp only [sB, sC])
      refine wpAnyH_done (by kernel_rfl) ?_ _
      refine NoPanic.normal ?_
      have HC6 : Hid (CbAt base (w5.setCell ⟨cb, 6, none⟩ (.slice (some ⟨g5, 0, none⟩) (j + 1) cap)) cb sh v1' (.slice (some ⟨g5, 0, none⟩) (j + 1) cap) (.slice none 0 0) cols (regs ++ [⟨(xs : Int), xi⟩]) []) := HC1.out.push2 (d := ⟨(xs : Int), xi⟩) (u := .slice (some ⟨g5, 0, none⟩) (j + 1) cap) (by rw [HLR.out]; exact HOW.out) HG5.out
      have HLB : Hid (Blk (w5.setCell ⟨cb, 6, none⟩ (.slice (some ⟨g5, 0, none⟩) (j + 1) cap)) sb 48 (stQ (some ⟨ab, ao, none⟩) bd c (P + 1 + k1))) := (But.set cb 6 w5 _).blk ((HG5.out.block sb HL1.out.lt (fun e => by have := (HO1.out.lt sb e.symm).1; omega)).trans HL1.out) (by omega)
      generalize w5.setCell ⟨cb, 6, none⟩ (.slice (some ⟨g5, 0, none⟩) (j + 1) cap) = X6 at *
      clear HO1 HO2 HG5 HOW c5 f5 q2v q3v HC1 HL1 HK5 HK1 HK2 HKt1 HKt2 HB1 HB2
      go_wp2
      go_roundw
      case measure => simp [intOf]; omega
      case rel => exact ⟨j + 1, P + 1 + k1, _, _, by omega, by simp, HC6.out, HLR2.out, HLB.out, HPL2.out, HPG2.out, HK6.out⟩
     ·have hge : ¬ ((j : Int) < (z2 : Int)) := by omega
      have hj2 : j = z2 := by omega
      obtain ⟨OP, hOP⟩ : ∃ p, p = RP + z2 * (1 + k1) := ⟨_, rfl⟩
      have hOPl : OP ≤ 5000080 := by rw [hOP]; have : z2 * (1 + k1) ≤ 500 * 17 := Nat.mul_le_mul (by omega) (by omega); omega
      have HPL0 : Hid (P ≤ 32 + (OP + 0 * k1)) := by
       show P ≤ _
       have := HPL.out
       rw [hj2] at this
       rw [Nat.zero_mul, Nat.add_zero, hOP]
       exact this
      have HPG0 : Hid (P ≤ 8 * n → P = 32 + (OP + 0 * k1) ∧ [] = (List.range 0).map (outF nm OP k1) ∧ regs = (List.range z2).map (regF nm RP k1) ∧ cols.map ClD.cs = (List.range z4).map (colF nm z3 k0 k1)) := by
       intro hle
       obtain ⟨e1, e2, e3⟩ := HPG.out hle
       rw [hj2] at e1 e2
       exact ⟨by rw [Nat.zero_mul, Nat.add_zero, hOP]; exact e1, rfl, e2, e3⟩
      have HRL2 : Hid (regs.length = z2) := by show _ = _; rw [HLR.out, hj2]
      have HOPE := hidden hOP
      clear HPL HPG HLR hOP hj2 hj hlt
      go_wp2_with fail
      clear y2
      go_loopw [17] (fun j' w' => ∃ (j P : Nat) (v3 : Value) (outs : List Int), j ≤ z1 ∧ j' = .int .i64 j ∧ Hid (CbAt base w' cb sh v1' v2 v3 cols regs outs) ∧ Hid (outs.length = j) ∧ Hid (Blk w' sb 48 (stQ (some ⟨ab, ao, none⟩) bd c P)) ∧ Hid (P ≤ 32 + (OP + j * k1)) ∧ Hid (P ≤ 8 * n → P = 32 + (OP + j * k1) ∧ outs = (List.range j).map (outF nm OP k1) ∧ regs = (List.range z2).map (regF nm RP k1) ∧ cols.map ClD.cs = (List.range z4).map (colF nm z3 k0 k1)) ∧ Hid (Kp [sb, cb] W1 w')) (fun j' _ => z1 - (intOf j').toNat)
      case atStart => exact ⟨0, P, _, [], Nat.zero_le _, rfl, HCB.out, rfl, HSB.out, HPL0.out, HPG0.out, HKW.out⟩
      case round =>
       clear HCB HSB HPL0 HPG0 HKW
       obtain ⟨j, P, v3, outs, hj, rfl, HCB, HLR, HSB, HPL, HPG, HKW⟩ := hrel
       have y1 : wr.cell? ⟨sx, 1, none⟩ = some (.int .i64 (z1 : Int)) := (KSX.out _ HKW.out).cell rfl
       by_cases hlt : j < z1
       ·have hltI : (j : Int) < (z1 : Int) := by omega
        have ej : IntKind.i64.wrap ((j : Int) + 1) = (j : Int) + 1 := wrapI _ (by omega) (by omega)
        obtain ⟨xs, HXS⟩ : ∃ b, Hid (b = takeV bd P k1) := ⟨_, rfl⟩
        have HLR2 : Hid ((outs ++ [(xs : Int)]).length = j + 1) := by show _ = _; rw [List.length_append, HLR.out]; rfl
        have HPL2 : Hid (P + k1 ≤ 32 + (OP + (j + 1) * k1)) := by
         show _ ≤ _
         have := HPL.out
         rw [Nat.add_mul, Nat.one_mul]
         omega
        have HPG2 : Hid (P + k1 ≤ 8 * n → P + k1 = 32 + (OP + (j + 1) * k1) ∧ outs ++ [(xs : Int)] = (List.range (j + 1)).map (outF nm OP k1) ∧ regs = (List.range z2).map (regF nm RP k1) ∧ cols.map ClD.cs = (List.range z4).map (colF nm z3 k0 k1)) := by
         intro hle
         obtain ⟨e1, e2, e3, e4⟩ := HPG.out (by omega)
         refine ⟨by rw [e1, Nat.add_mul, Nat.one_mul]; omega, ?_, e3, e4⟩
         rw [List.range_succ, List.map_append, ← e2]
         congr 1
         show [(xs : Int)] = [outF nm OP k1 j]
         unfold outF
         have h2 : xs = nm (OP + j * k1) k1 := by
          rw [HXS.out]
          unfold takeV
          rw [HBDL.out, if_pos (by omega), e1, HNN.out]
         rw [h2]
        clear HPL HPG
        obtain ⟨wr0, hwr0⟩ : ∃ x, x = wr := ⟨_, rfl⟩
        rw [← hwr0] at HCB HKW HSB y1
        rw [← hwr0]
        clear hwr0
        have TK2 : Hid (∀ v, Below wr0.heap.size wr0 v → Calls Tryd.prog 21 #[.pointer (some ⟨sb, 0, none⟩), .int .i64 (k1 : Int)] v fun e w' => e = .returned (.int .i64 (xs : Int)) ∧ But sb v w' ∧ Blk w' sb 48 (stQ (some ⟨ab, ao, none⟩) bd c (P + k1))) := fun v hv => by rw [HXS.out]; exact TAKG.out v P k1 (HSB.out.below hv) (HKW.out.trans (Below.kp hv)) k1l
        have KS : Hid (∀ w', Kp [sb, cb] W1 w' → (fun w' => w'.cell? ⟨sx, 0, none⟩ = some (.int .i64 (z0 : Int)) ∧ w'.cell? ⟨sx, 1, none⟩ = some (.int .i64 (z1 : Int)) ∧ w'.cell? ⟨sx, 2, none⟩ = some (.int .i64 (z2 : Int)) ∧ w'.cell? ⟨sx, 3, none⟩ = some (.int .i64 (z3 : Int)) ∧ w'.cell? ⟨sx, 4, none⟩ = some (.int .i64 (z4 : Int))) w') := fun w' hw' => ⟨(KSX.out _ hw').cell rfl, (KSX.out _ hw').cell rfl, (KSX.out _ hw').cell rfl, (KSX.out _ hw').cell rfl, (KSX.out _ hw').cell rfl⟩
        have HKD : Hid (Kp [sb, cb] W1 wr0.drew) := HKW.out.drew
        have hm1 : j + 1 ≤ maxLen := by simp only [maxLen]; omega
        have hm2 : (j + 1) * 8 ≤ 140737488355328 := by omega
        go_wp2_with fail
        have q1 : wr0.cell? ⟨cb, 7, none⟩ = some v3 := HCB.out.box.cell rfl
        clear y1
        refine wp_region_noPanic ?_
        refine wp_region_held_drew (S := (fun w' => w'.cell? ⟨sx, 0, none⟩ = some (.int .i64 (z0 : Int)) ∧ w'.cell? ⟨sx, 1, none⟩ = some (.int .i64 (z1 : Int)) ∧ w'.cell? ⟨sx, 2, none⟩ = some (.int .i64 (z2 : Int)) ∧ w'.cell? ⟨sx, 3, none⟩ = some (.int .i64 (z3 : Int)) ∧ w'.cell? ⟨sx, 4, none⟩ = some (.int .i64 (z4 : Int)))) (by kernel_rfl) (by first | exact KS.out _ HK2.out | exact KS.out _ HK1.out | exact KS.out _ HKt2.out | exact KS.out _ HKt1.out | exact KS.out _ HKD.out) (fun hHeld => ?_)
        refine tk 0 ?_
        refine tk 2 ?_
        refine tk 3 ?_
        refine wpAnyH_ready (rs := [1, 4]) (by kernel_rfl) (by simp) ?_
        refine AllReadyH.cons (o := _) rfl (fun K hK => ?_) ?_
        ·(try simp only [gA, gB, gC])
         go_simp
         refine hK.out _ _ (by first | exact KS.out _ HK2.out | exact KS.out _ HK1.out | exact KS.out _ HKt2.out | exact KS.out _ HKt1.out | exact KS.out _ HKD.out) (fun hHeld4 => ?_)
         clear hK K
         (try simp only [Act.put]); (try simp only [sA]); (try simp only [sB, sC])
         refine wpAnyH_ready (rs := [4]) (by kernel_rfl) (by simp) ?_
         refine AllReadyH.cons (o := _) rfl (fun K hK => ?_) AllReadyH.nil
         (try simp only [gA, gB, gC])
         go_simp
         go_at_call 14
         refine (SRC1.out _).mono ?_
         rintro e t1 ⟨rfl, hb1⟩
         have HB1 : Hid (Below wr0.heap.size wr0 t1) := ⟨hb1.os, hb1.tape, hb1.output, hb1.size, hb1.block⟩
         have HKt1 : Hid (Kp [sb, cb] W1 t1) := HKW.out.trans (Below.kp HB1.out)
         have q1' : t1.cell? ⟨cb, 7, none⟩ = some v3 := (HCB.out.box.below HB1.out).cell rfl
         clear hb1
         go_wp2_with fail
         refine hK.out _ _ (by exact KS.out _ HKt1.out) (fun hHeld6 => ?_)
         clear hK K
         (try simp only [Act.put]); (try simp only [sA]); (try simp only [sB, sC])
         refine wpAnyH_ready (rs := [5]) (by kernel_rfl) (by simp) ?_
         refine AllReadyH.cons (o := _) rfl (fun K hK => ?_) AllReadyH.nil
         (try simp only [gA, gB, gC])
         go_simp
         go_at_call 13
         refine (BIT1.out _).mono ?_
         rintro e t2 ⟨rfl, ht2⟩
         have HB2 : Hid (Below wr0.heap.size wr0 t2) := by rw [ht2]; exact HB1.out
         have HKt2 : Hid (Kp [sb, cb] W1 t2) := by rw [ht2]; exact HKt1.out
         have q2' : t2.cell? ⟨cb, 7, none⟩ = some v3 := by rw [ht2]; exact q1'
         clear ht2
         go_wp2_with fail
         refine hK.out _ _ (by exact KS.out _ HKt2.out) (fun hHeld7 => ?_)
         clear hK K
         (try simp only [Act.put]); (try simp only [sA]); (try simp only [sB, sC])
         refine wpAnyH_ready (rs := [6]) (by kernel_rfl) (by simp) ?_
         refine AllReadyH.cons (o := _) rfl (fun K hK => ?_) AllReadyH.nil
         (try simp only [gA, gB, gC])
         go_simp
         go_at_call 21
         refine (TK2.out t2 HB2.out).mono ?_
         rintro e v ⟨rfl, h1', h2'⟩
         have HK1 : Hid (Kp [sb, cb] W1 v) := HKt2.out.trans (h1'.kp (by simp))
         have HC1 : Hid (CbAt base v cb sh v1' v2 v3 cols regs outs) := (HCB.out.kp (gs := [sb]) (Below.kp HB2.out) (by simp; omega) (by intro g hg; simp at hg; left; omega)).but h1' (by omega) (by omega)
         have HL1 := hidden h2'
         have HO1 : Hid (v.ownsRow base 3 1 v3 j (outs.map intV)) := by have := HC1.out.o3; rwa [HLR.out] at this
         have HO2 := hidden (HO1.out.alloc (.cells #[.int .i64 (xs : Int)] 3))
         have HZ2w : Hid (base ≤ (v.alloc (.cells #[.int .i64 (xs : Int)] 3)).heap.size) := by have := HK1.out.size; show base ≤ _; simp; omega
         have q2v : v.cell? ⟨cb, 7, none⟩ = some v3 := HC1.out.box.cell rfl
         have HK2 : Hid (Kp [sb, cb] W1 (v.alloc (.cells #[.int .i64 (xs : Int)] 3))) := HK1.out.trans (Below.kp ((Below.refl _ _).alloc (Nat.le_refl _) _))
         have q3v : (v.alloc (.cells #[.int .i64 (xs : Int)] 3)).cell? ⟨cb, 7, none⟩ = some v3 := (HC1.out.box.below ((Below.refl _ _).alloc (Nat.le_refl _) _)).cell rfl
         clear h1' h2' 
         go_wp2_with fail
         refine hK.out _ _ (by exact KS.out _ HK1.out) (fun hHeld8 => ?_)
         clear hK K
         (try simp only [Act.put]); (try simp only [sA]); (try simp only [sB, sC])
         refine wpAnyH_ready (rs := [7]) (by kernel_rfl) (by simp) ?_
         refine AllReadyH.cons (o := _) rfl (fun K hK => ?_) AllReadyH.nil
         (try simp only [gA, gB, gC])
         go_simp
         refine hK.out _ _ (by exact KS.out _ HK2.out) (fun hHeld10 => ?_)
         clear hK K
         (try simp only [Act.put]); (try simp only [sA]); (try simp only [sB, sC])
         refine wpAnyH_ready (rs := [8]) (by kernel_rfl) (by simp) ?_
         refine AllReadyH.cons (o := _) rfl (fun K hK => ?_) AllReadyH.nil
         refine step_append_lies _ rfl (.tmp 154) (.tmp 160) 30 rfl base 3 i3 _ 1 8 Tryd.underlying30 HI3.out HZ3i.out HS3.out HY3.out rfl (by decide) v3 j _ rfl HO2.out ⟨v.heap.size, 0, none⟩ 1 1 [.int .i64 (xs : Int)] rfl rfl (World.news_of_block (heap_new _ _)) (by simp [Value.oneCell']) (by decide) hm1 hm2 HZ2w.out _ rfl ?_
         intro g5 cap w5 hown hgrow hat hlt5
         have HG5 : Hid (v.grownBy w5 v3.ownBlock) := grown_trans (World.grownBy_alloc _ _ _) hgrow
         have HOW := hidden hown
         have HK5 : Hid (Kp [sb, cb] W1 w5) := HK1.out.grow HG5.out (fun k hk => by have := (HO1.out.lt k hk).1; omega)
         have hB5 : Blk w5 cb 32 _ := (HG5.out.block cb HC1.out.box.lt (fun e => by have := (HO1.out.lt cb e.symm).1; have := HC1.out.lt; omega)).trans HC1.out.box
         have c5 : w5.cell? ⟨cb, 7, none⟩ = some v3 := hB5.cell rfl
         have f5 := hB5.frozen 7
         clear hown hgrow hat hlt5 hB5
         have HK6 : Hid (Kp [sb, cb] W1 (w5.setCell ⟨cb, 7, none⟩ (.slice (some ⟨g5, 0, none⟩) (j + 1) cap))) := HK5.out.trans (Kp.set _ _ _ _ _ (by simp))
         refine hK.out _ _ (by exact KS.out _ HK5.out) (fun hHeld11 => ?_)
         clear hK K
         (try simp only [Act.put]); (try simp only [sA]); (try simp only [sB, sC])
         refine tk 9 ?_
         refine wpAnyH_ready (rs := [10]) (by kernel_rfl) (by simp) ?_
         refine AllReadyH.cons (o := _) rfl (fun K hK => ?_) AllReadyH.nil
         (try simp only [gA, gB, gC])
         go_simp
         refine hK.out _ _ (by exact KS.out _ HK6.out) (fun hHeld14 => ?_)
         clear hK K
         (try simp only [Act.put]); (try simp only [sA]); (try simp only [sB, sC])
         refine wpAnyH_done (by kernel_rfl) ?_ _
         refine NoPanic.normal ?_
         have HC6 : Hid (CbAt base (w5.setCell ⟨cb, 7, none⟩ (.slice (some ⟨g5, 0, none⟩) (j + 1) cap)) cb sh v1' v2 (.slice (some ⟨g5, 0, none⟩) (j + 1) cap) cols regs (outs ++ [(xs : Int)])) := HC1.out.push3 (x := (xs : Int)) (u := .slice (some ⟨g5, 0, none⟩) (j + 1) cap) (by rw [HLR.out]; exact HOW.out) HG5.out
         have HLB : Hid (Blk (w5.setCell ⟨cb, 7, none⟩ (.slice (some ⟨g5, 0, none⟩) (j + 1) cap)) sb 48 (stQ (some ⟨ab, ao, none⟩) bd c (P + k1))) := (But.set cb 7 w5 _).blk ((HG5.out.block sb HL1.out.lt (fun e => by have := (HO1.out.lt sb e.symm).1; omega)).trans HL1.out) (by omega)
         generalize w5.setCell ⟨cb, 7, none⟩ (.slice (some ⟨g5, 0, none⟩) (j + 1) cap) = X6 at *
         clear HO1 HO2 HG5 HOW c5 f5 q2v q3v HC1 HL1 HK5 HK1 HK2 HKt1 HKt2 HB1 HB2
         go_wp2
         go_roundw
         case measure => simp [intOf]; omega
         case rel => exact ⟨j + 1, P + k1, _, _, by omega, by simp, HC6.out, HLR2.out, HLB.out, HPL2.out, HPG2.out, HK6.out⟩
        refine AllReadyH.cons (o := _) rfl (fun K hK => ?_) AllReadyH.nil
        (try simp only [gA, gB, gC])
        go_simp
        go_at_call 14
        refine (SRC1.out _).mono ?_
        rintro e t1 ⟨rfl, hb1⟩
        have HB1 : Hid (Below wr0.heap.size wr0 t1) := ⟨hb1.os, hb1.tape, hb1.output, hb1.size, hb1.block⟩
        have HKt1 : Hid (Kp [sb, cb] W1 t1) := HKW.out.trans (Below.kp HB1.out)
        have q1' : t1.cell? ⟨cb, 7, none⟩ = some v3 := (HCB.out.box.below HB1.out).cell rfl
        clear hb1
        go_wp2_with fail
        refine hK.out _ _ (by exact KS.out _ HKt1.out) (fun hHeld6 => ?_)
        clear hK K
        (try simp only [Act.put]); (try simp only [sA]); (try simp only [sB, sC])
        refine wpAnyH_ready (rs := [1, 5]) (by kernel_rfl) (by simp) ?_
        refine AllReadyH.cons (o := _) rfl (fun K hK => ?_) ?_
        ·(try simp only [gA, gB, gC])
         go_simp
         refine hK.out _ _ (by first | exact KS.out _ HK2.out | exact KS.out _ HK1.out | exact KS.out _ HKt2.out | exact KS.out _ HKt1.out | exact KS.out _ HKD.out) (fun hHeld4 => ?_)
         clear hK K
         (try simp only [Act.put]); (try simp only [sA]); (try simp only [sB, sC])
         refine wpAnyH_ready (rs := [5]) (by kernel_rfl) (by simp) ?_
         refine AllReadyH.cons (o := _) rfl (fun K hK => ?_) AllReadyH.nil
         (try simp only [gA, gB, gC])
         go_simp
         go_at_call 13
         refine (BIT1.out _).mono ?_
         rintro e t2 ⟨rfl, ht2⟩
         have HB2 : Hid (Below wr0.heap.size wr0 t2) := by rw [ht2]; exact HB1.out
         have HKt2 : Hid (Kp [sb, cb] W1 t2) := by rw [ht2]; exact HKt1.out
         have q2' : t2.cell? ⟨cb, 7, none⟩ = some v3 := by rw [ht2]; exact q1'
         clear ht2
         go_wp2_with fail
         refine hK.out _ _ (by exact KS.out _ HKt2.out) (fun hHeld7 => ?_)
         clear hK K
         (try simp only [Act.put]); (try simp only [sA]); (try simp only [sB, sC])
         refine wpAnyH_ready (rs := [6]) (by kernel_rfl) (by simp) ?_
         refine AllReadyH.cons (o := _) rfl (fun K hK => ?_) AllReadyH.nil
         (try simp only [gA, gB, gC])
         go_simp
         go_at_call 21
         refine (TK2.out t2 HB2.out).mono ?_
         rintro e v ⟨rfl, h1', h2'⟩
         have HK1 : Hid (Kp [sb, cb] W1 v) := HKt2.out.trans (h1'.kp (by simp))
         have HC1 : Hid (CbAt base v cb sh v1' v2 v3 cols regs outs) := (HCB.out.kp (gs := [sb]) (Below.kp HB2.out) (by simp; omega) (by intro g hg; simp at hg; left; omega)).but h1' (by omega) (by omega)
         have HL1 := hidden h2'
         have HO1 : Hid (v.ownsRow base 3 1 v3 j (outs.map intV)) := by have := HC1.out.o3; rwa [HLR.out] at this
         have HO2 := hidden (HO1.out.alloc (.cells #[.int .i64 (xs : Int)] 3))
         have HZ2w : Hid (base ≤ (v.alloc (.cells #[.int .i64 (xs : Int)] 3)).heap.size) := by have := HK1.out.size; show base ≤ _; simp; omega
         have q2v : v.cell? ⟨cb, 7, none⟩ = some v3 := HC1.out.box.cell rfl
         have HK2 : Hid (Kp [sb, cb] W1 (v.alloc (.cells #[.int .i64 (xs : Int)] 3))) := HK1.out.trans (Below.kp ((Below.refl _ _).alloc (Nat.le_refl _) _))
         have q3v : (v.alloc (.cells #[.int .i64 (xs : Int)] 3)).cell? ⟨cb, 7, none⟩ = some v3 := (HC1.out.box.below ((Below.refl _ _).alloc (Nat.le_refl _) _)).cell rfl
         clear h1' h2' 
         go_wp2_with fail
         refine hK.out _ _ (by exact KS.out _ HK1.out) (fun hHeld8 => ?_)
         clear hK K
         (try simp only [Act.put]); (try simp only [sA]); (try simp only [sB, sC])
         refine wpAnyH_ready (rs := [7]) (by kernel_rfl) (by simp) ?_
         refine AllReadyH.cons (o := _) rfl (fun K hK => ?_) AllReadyH.nil
         (try simp only [gA, gB, gC])
         go_simp
         refine hK.out _ _ (by exact KS.out _ HK2.out) (fun hHeld10 => ?_)
         clear hK K
         (try simp only [Act.put]); (try simp only [sA]); (try simp only [sB, sC])
         refine wpAnyH_ready (rs := [8]) (by kernel_rfl) (by simp) ?_
         refine AllReadyH.cons (o := _) rfl (fun K hK => ?_) AllReadyH.nil
         refine step_append_lies _ rfl (.tmp 154) (.tmp 160) 30 rfl base 3 i3 _ 1 8 Tryd.underlying30 HI3.out HZ3i.out HS3.out HY3.out rfl (by decide) v3 j _ rfl HO2.out ⟨v.heap.size, 0, none⟩ 1 1 [.int .i64 (xs : Int)] rfl rfl (World.news_of_block (heap_new _ _)) (by simp [Value.oneCell']) (by decide) hm1 hm2 HZ2w.out _ rfl ?_
         intro g5 cap w5 hown hgrow hat hlt5
         have HG5 : Hid (v.grownBy w5 v3.ownBlock) := grown_trans (World.grownBy_alloc _ _ _) hgrow
         have HOW := hidden hown
         have HK5 : Hid (Kp [sb, cb] W1 w5) := HK1.out.grow HG5.out (fun k hk => by have := (HO1.out.lt k hk).1; omega)
         have hB5 : Blk w5 cb 32 _ := (HG5.out.block cb HC1.out.box.lt (fun e => by have := (HO1.out.lt cb e.symm).1; have := HC1.out.lt; omega)).trans HC1.out.box
         have c5 : w5.cell? ⟨cb, 7, none⟩ = some v3 := hB5.cell rfl
         have f5 := hB5.frozen 7
         clear hown hgrow hat hlt5 hB5
         have HK6 : Hid (Kp [sb, cb] W1 (w5.setCell ⟨cb, 7, none⟩ (.slice (some ⟨g5, 0, none⟩) (j + 1) cap))) := HK5.out.trans (Kp.set _ _ _ _ _ (by simp))
         refine hK.out _ _ (by exact KS.out _ HK5.out) (fun hHeld11 => ?_)
         clear hK K
         (try simp only [Act.put]); (try simp only [sA]); (try simp only [sB, sC])
         refine tk 9 ?_
         refine wpAnyH_ready (rs := [10]) (by kernel_rfl) (by simp) ?_
         refine AllReadyH.cons (o := _) rfl (fun K hK => ?_) AllReadyH.nil
         (try simp only [gA, gB, gC])
         go_simp
         refine hK.out _ _ (by exact KS.out _ HK6.out) (fun hHeld14 => ?_)
         clear hK K
         (try simp only [Act.put]); (try simp only [sA]); (try simp only [sB, sC])
         refine wpAnyH_done (by kernel_rfl) ?_ _
         refine NoPanic.normal ?_
         have HC6 : Hid (CbAt base (w5.setCell ⟨cb, 7, none⟩ (.slice (some ⟨g5, 0, none⟩) (j + 1) cap)) cb sh v1' v2 (.slice (some ⟨g5, 0, none⟩) (j + 1) cap) cols regs (outs ++ [(xs : Int)])) := HC1.out.push3 (x := (xs : Int)) (u := .slice (some ⟨g5, 0, none⟩) (j + 1) cap) (by rw [HLR.out]; exact HOW.out) HG5.out
         have HLB : Hid (Blk (w5.setCell ⟨cb, 7, none⟩ (.slice (some ⟨g5, 0, none⟩) (j + 1) cap)) sb 48 (stQ (some ⟨ab, ao, none⟩) bd c (P + k1))) := (But.set cb 7 w5 _).blk ((HG5.out.block sb HL1.out.lt (fun e => by have := (HO1.out.lt sb e.symm).1; omega)).trans HL1.out) (by omega)
         generalize w5.setCell ⟨cb, 7, none⟩ (.slice (some ⟨g5, 0, none⟩) (j + 1) cap) = X6 at *
         clear HO1 HO2 HG5 HOW c5 f5 q2v q3v HC1 HL1 HK5 HK1 HK2 HKt1 HKt2 HB1 HB2
         go_wp2
         go_roundw
         case measure => simp [intOf]; omega
         case rel => exact ⟨j + 1, P + k1, _, _, by omega, by simp, HC6.out, HLR2.out, HLB.out, HPL2.out, HPG2.out, HK6.out⟩
        refine AllReadyH.cons (o := _) rfl (fun K hK => ?_) AllReadyH.nil
        (try simp only [gA, gB, gC])
        go_simp
        go_at_call 13
        refine (BIT1.out _).mono ?_
        rintro e t2 ⟨rfl, ht2⟩
        have HB2 : Hid (Below wr0.heap.size wr0 t2) := by rw [ht2]; exact HB1.out
        have HKt2 : Hid (Kp [sb, cb] W1 t2) := by rw [ht2]; exact HKt1.out
        have q2' : t2.cell? ⟨cb, 7, none⟩ = some v3 := by rw [ht2]; exact q1'
        clear ht2
        go_wp2_with fail
        refine hK.out _ _ (by exact KS.out _ HKt2.out) (fun hHeld7 => ?_)
        clear hK K
        (try simp only [Act.put]); (try simp only [sA]); (try simp only [sB, sC])
        refine wpAnyH_ready (rs := [1, 6]) (by kernel_rfl) (by simp) ?_
        refine AllReadyH.cons (o := _) rfl (fun K hK => ?_) ?_
        ·(try simp only [gA, gB, gC])
         go_simp
         refine hK.out _ _ (by first | exact KS.out _ HK2.out | exact KS.out _ HK1.out | exact KS.out _ HKt2.out | exact KS.out _ HKt1.out | exact KS.out _ HKD.out) (fun hHeld4 => ?_)
         clear hK K
         (try simp only [Act.put]); (try simp only [sA]); (try simp only [sB, sC])
         refine wpAnyH_ready (rs := [6]) (by kernel_rfl) (by simp) ?_
         refine AllReadyH.cons (o := _) rfl (fun K hK => ?_) AllReadyH.nil
         (try simp only [gA, gB, gC])
         go_simp
         go_at_call 21
         refine (TK2.out t2 HB2.out).mono ?_
         rintro e v ⟨rfl, h1', h2'⟩
         have HK1 : Hid (Kp [sb, cb] W1 v) := HKt2.out.trans (h1'.kp (by simp))
         have HC1 : Hid (CbAt base v cb sh v1' v2 v3 cols regs outs) := (HCB.out.kp (gs := [sb]) (Below.kp HB2.out) (by simp; omega) (by intro g hg; simp at hg; left; omega)).but h1' (by omega) (by omega)
         have HL1 := hidden h2'
         have HO1 : Hid (v.ownsRow base 3 1 v3 j (outs.map intV)) := by have := HC1.out.o3; rwa [HLR.out] at this
         have HO2 := hidden (HO1.out.alloc (.cells #[.int .i64 (xs : Int)] 3))
         have HZ2w : Hid (base ≤ (v.alloc (.cells #[.int .i64 (xs : Int)] 3)).heap.size) := by have := HK1.out.size; show base ≤ _; simp; omega
         have q2v : v.cell? ⟨cb, 7, none⟩ = some v3 := HC1.out.box.cell rfl
         have HK2 : Hid (Kp [sb, cb] W1 (v.alloc (.cells #[.int .i64 (xs : Int)] 3))) := HK1.out.trans (Below.kp ((Below.refl _ _).alloc (Nat.le_refl _) _))
         have q3v : (v.alloc (.cells #[.int .i64 (xs : Int)] 3)).cell? ⟨cb, 7, none⟩ = some v3 := (HC1.out.box.below ((Below.refl _ _).alloc (Nat.le_refl _) _)).cell rfl
         clear h1' h2' 
         go_wp2_with fail
         refine hK.out _ _ (by exact KS.out _ HK1.out) (fun hHeld8 => ?_)
         clear hK K
         (try simp only [Act.put]); (try simp only [sA]); (try simp only [sB, sC])
         refine wpAnyH_ready (rs := [7]) (by kernel_rfl) (by simp) ?_
         refine AllReadyH.cons (o := _) rfl (fun K hK => ?_) AllReadyH.nil
         (try simp only [gA, gB, gC])
         go_simp
         refine hK.out _ _ (by exact KS.out _ HK2.out) (fun hHeld10 => ?_)
         clear hK K
         (try simp only [Act.put]); (try simp only [sA]); (try simp only [sB, sC])
         refine wpAnyH_ready (rs := [8]) (by kernel_rfl) (by simp) ?_
         refine AllReadyH.cons (o := _) rfl (fun K hK => ?_) AllReadyH.nil
         refine step_append_lies _ rfl (.tmp 154) (.tmp 160) 30 rfl base 3 i3 _ 1 8 Tryd.underlying30 HI3.out HZ3i.out HS3.out HY3.out rfl (by decide) v3 j _ rfl HO2.out ⟨v.heap.size, 0, none⟩ 1 1 [.int .i64 (xs : Int)] rfl rfl (World.news_of_block (heap_new _ _)) (by simp [Value.oneCell']) (by decide) hm1 hm2 HZ2w.out _ rfl ?_
         intro g5 cap w5 hown hgrow hat hlt5
         have HG5 : Hid (v.grownBy w5 v3.ownBlock) := grown_trans (World.grownBy_alloc _ _ _) hgrow
         have HOW := hidden hown
         have HK5 : Hid (Kp [sb, cb] W1 w5) := HK1.out.grow HG5.out (fun k hk => by have := (HO1.out.lt k hk).1; omega)
         have hB5 : Blk w5 cb 32 _ := (HG5.out.block cb HC1.out.box.lt (fun e => by have := (HO1.out.lt cb e.symm).1; have := HC1.out.lt; omega)).trans HC1.out.box
         have c5 : w5.cell? ⟨cb, 7, none⟩ = some v3 := hB5.cell rfl
         have f5 := hB5.frozen 7
         clear hown hgrow hat hlt5 hB5
         have HK6 : Hid (Kp [sb, cb] W1 (w5.setCell ⟨cb, 7, none⟩ (.slice (some ⟨g5, 0, none⟩) (j + 1) cap))) := HK5.out.trans (Kp.set _ _ _ _ _ (by simp))
         refine hK.out _ _ (by exact KS.out _ HK5.out) (fun hHeld11 => ?_)
         clear hK K
         (try simp only [Act.put]); (try simp only [sA]); (try simp only [sB, sC])
         refine tk 9 ?_
         refine wpAnyH_ready (rs := [10]) (by kernel_rfl) (by simp) ?_
         refine AllReadyH.cons (o := _) rfl (fun K hK => ?_) AllReadyH.nil
         (try simp only [gA, gB, gC])
         go_simp
         refine hK.out _ _ (by exact KS.out _ HK6.out) (fun hHeld14 => ?_)
         clear hK K
         (try simp only [Act.put]); (try simp only [sA]); (try simp only [sB, sC])
         refine wpAnyH_done (by kernel_rfl) ?_ _
         refine NoPanic.normal ?_
         have HC6 : Hid (CbAt base (w5.setCell ⟨cb, 7, none⟩ (.slice (some ⟨g5, 0, none⟩) (j + 1) cap)) cb sh v1' v2 (.slice (some ⟨g5, 0, none⟩) (j + 1) cap) cols regs (outs ++ [(xs : Int)])) := HC1.out.push3 (x := (xs : Int)) (u := .slice (some ⟨g5, 0, none⟩) (j + 1) cap) (by rw [HLR.out]; exact HOW.out) HG5.out
         have HLB : Hid (Blk (w5.setCell ⟨cb, 7, none⟩ (.slice (some ⟨g5, 0, none⟩) (j + 1) cap)) sb 48 (stQ (some ⟨ab, ao, none⟩) bd c (P + k1))) := (But.set cb 7 w5 _).blk ((HG5.out.block sb HL1.out.lt (fun e => by have := (HO1.out.lt sb e.symm).1; omega)).trans HL1.out) (by omega)
         generalize w5.setCell ⟨cb, 7, none⟩ (.slice (some ⟨g5, 0, none⟩) (j + 1) cap) = X6 at *
         clear HO1 HO2 HG5 HOW c5 f5 q2v q3v HC1 HL1 HK5 HK1 HK2 HKt1 HKt2 HB1 HB2
         go_wp2
         go_roundw
         case measure => simp [intOf]; omega
         case rel => exact ⟨j + 1, P + k1, _, _, by omega, by simp, HC6.out, HLR2.out, HLB.out, HPL2.out, HPG2.out, HK6.out⟩
        refine AllReadyH.cons (o := _) rfl (fun K hK => ?_) AllReadyH.nil
        (try simp only [gA, gB, gC])
        go_simp
        go_at_call 21
        refine (TK2.out t2 HB2.out).mono ?_
        rintro e v ⟨rfl, h1', h2'⟩
        have HK1 : Hid (Kp [sb, cb] W1 v) := HKt2.out.trans (h1'.kp (by simp))
        have HC1 : Hid (CbAt base v cb sh v1' v2 v3 cols regs outs) := (HCB.out.kp (gs := [sb]) (Below.kp HB2.out) (by simp; omega) (by intro g hg; simp at hg; left; omega)).but h1' (by omega) (by omega)
        have HL1 := hidden h2'
        have HO1 : Hid (v.ownsRow base 3 1 v3 j (outs.map intV)) := by have := HC1.out.o3; rwa [HLR.out] at this
        have HO2 := hidden (HO1.out.alloc (.cells #[.int .i64 (xs : Int)] 3))
        have HZ2w : Hid (base ≤ (v.alloc (.cells #[.int .i64 (xs : Int)] 3)).heap.size) := by have := HK1.out.size; show base ≤ _; simp; omega
        have q2v : v.cell? ⟨cb, 7, none⟩ = some v3 := HC1.out.box.cell rfl
        have HK2 : Hid (Kp [sb, cb] W1 (v.alloc (.cells #[.int .i64 (xs : Int)] 3))) := HK1.out.trans (Below.kp ((Below.refl _ _).alloc (Nat.le_refl _) _))
        have q3v : (v.alloc (.cells #[.int .i64 (xs : Int)] 3)).cell? ⟨cb, 7, none⟩ = some v3 := (HC1.out.box.below ((Below.refl _ _).alloc (Nat.le_refl _) _)).cell rfl
        clear h1' h2' 
        go_wp2_with fail
        refine hK.out _ _ (by exact KS.out _ HK1.out) (fun hHeld8 => ?_)
        clear hK K
        (try simp only [Act.put]); (try simp only [sA]); (try simp only [sB, sC])
        refine wpAnyH_ready (rs := [1, 7]) (by kernel_rfl) (by simp) ?_
        refine AllReadyH.cons (o := _) rfl (fun K hK => ?_) ?_
        ·(try simp only [gA, gB, gC])
         go_simp
         refine hK.out _ _ (by first | exact KS.out _ HK2.out | exact KS.out _ HK1.out | exact KS.out _ HKt2.out | exact KS.out _ HKt1.out | exact KS.out _ HKD.out) (fun hHeld4 => ?_)
         clear hK K
         (try simp only [Act.put]); (try simp only [sA]); (try simp only [sB, sC])
         refine wpAnyH_ready (rs := [7]) (by kernel_rfl) (by simp) ?_
         refine AllReadyH.cons (o := _) rfl (fun K hK => ?_) AllReadyH.nil
         (try simp only [gA, gB, gC])
         go_simp
         refine hK.out _ _ (by exact KS.out _ HK2.out) (fun hHeld10 => ?_)
         clear hK K
         (try simp only [Act.put]); (try simp only [sA]); (try simp only [sB, sC])
         refine wpAnyH_ready (rs := [8]) (by kernel_rfl) (by simp) ?_
         refine AllReadyH.cons (o := _) rfl (fun K hK => ?_) AllReadyH.nil
         refine step_append_lies _ rfl (.tmp 154) (.tmp 160) 30 rfl base 3 i3 _ 1 8 Tryd.underlying30 HI3.out HZ3i.out HS3.out HY3.out rfl (by decide) v3 j _ rfl HO2.out ⟨v.heap.size, 0, none⟩ 1 1 [.int .i64 (xs : Int)] rfl rfl (World.news_of_block (heap_new _ _)) (by simp [Value.oneCell']) (by decide) hm1 hm2 HZ2w.out _ rfl ?_
         intro g5 cap w5 hown hgrow hat hlt5
         have HG5 : Hid (v.grownBy w5 v3.ownBlock) := grown_trans (World.grownBy_alloc _ _ _) hgrow
         have HOW := hidden hown
         have HK5 : Hid (Kp [sb, cb] W1 w5) := HK1.out.grow HG5.out (fun k hk => by have := (HO1.out.lt k hk).1; omega)
         have hB5 : Blk w5 cb 32 _ := (HG5.out.block cb HC1.out.box.lt (fun e => by have := (HO1.out.lt cb e.symm).1; have := HC1.out.lt; omega)).trans HC1.out.box
         have c5 : w5.cell? ⟨cb, 7, none⟩ = some v3 := hB5.cell rfl
         have f5 := hB5.frozen 7
         clear hown hgrow hat hlt5 hB5
         have HK6 : Hid (Kp [sb, cb] W1 (w5.setCell ⟨cb, 7, none⟩ (.slice (some ⟨g5, 0, none⟩) (j + 1) cap))) := HK5.out.trans (Kp.set _ _ _ _ _ (by simp))
         refine hK.out _ _ (by exact KS.out _ HK5.out) (fun hHeld11 => ?_)
         clear hK K
         (try simp only [Act.put]); (try simp only [sA]); (try simp only [sB, sC])
         refine tk 9 ?_
         refine wpAnyH_ready (rs := [10]) (by kernel_rfl) (by simp) ?_
         refine AllReadyH.cons (o := _) rfl (fun K hK => ?_) AllReadyH.nil
         (try simp only [gA, gB, gC])
         go_simp
         refine hK.out _ _ (by exact KS.out _ HK6.out) (fun hHeld14 => ?_)
         clear hK K
         (try simp only [Act.put]); (try simp only [sA]); (try simp only [sB, sC])
         refine wpAnyH_done (by kernel_rfl) ?_ _
         refine NoPanic.normal ?_
         have HC6 : Hid (CbAt base (w5.setCell ⟨cb, 7, none⟩ (.slice (some ⟨g5, 0, none⟩) (j + 1) cap)) cb sh v1' v2 (.slice (some ⟨g5, 0, none⟩) (j + 1) cap) cols regs (outs ++ [(xs : Int)])) := HC1.out.push3 (x := (xs : Int)) (u := .slice (some ⟨g5, 0, none⟩) (j + 1) cap) (by rw [HLR.out]; exact HOW.out) HG5.out
         have HLB : Hid (Blk (w5.setCell ⟨cb, 7, none⟩ (.slice (some ⟨g5, 0, none⟩) (j + 1) cap)) sb 48 (stQ (some ⟨ab, ao, none⟩) bd c (P + k1))) := (But.set cb 7 w5 _).blk ((HG5.out.block sb HL1.out.lt (fun e => by have := (HO1.out.lt sb e.symm).1; omega)).trans HL1.out) (by omega)
         generalize w5.setCell ⟨cb, 7, none⟩ (.slice (some ⟨g5, 0, none⟩) (j + 1) cap) = X6 at *
         clear HO1 HO2 HG5 HOW c5 f5 q2v q3v HC1 HL1 HK5 HK1 HK2 HKt1 HKt2 HB1 HB2
         go_wp2
         go_roundw
         case measure => simp [intOf]; omega
         case rel => exact ⟨j + 1, P + k1, _, _, by omega, by simp, HC6.out, HLR2.out, HLB.out, HPL2.out, HPG2.out, HK6.out⟩
        refine AllReadyH.cons (o := _) rfl (fun K hK => ?_) AllReadyH.nil
        (try simp only [gA, gB, gC])
        go_simp
        refine hK.out _ _ (by exact KS.out _ HK2.out) (fun hHeld10 => ?_)
        clear hK K
        (try simp only [Act.put]); (try simp only [sA]); (try simp only [sB, sC])
        refine wpAnyH_ready (rs := [1]) (by kernel_rfl) (by simp) ?_
        refine AllReadyH.cons (o := _) rfl (fun K hK => ?_) AllReadyH.nil
        (try simp only [gA, gB, gC])
        go_simp
        refine hK.out _ _ (by first | exact KS.out _ HK2.out | exact KS.out _ HK1.out | exact KS.out _ HKt2.out | exact KS.out _ HKt1.out | exact KS.out _ HKD.out) (fun hHeld4 => ?_)
        clear hK K
        (try simp only [Act.put]); (try simp only [sA]); (try simp only [sB, sC])
        refine wpAnyH_ready (rs := [8]) (by kernel_rfl) (by simp) ?_
        refine AllReadyH.cons (o := _) rfl (fun K hK => ?_) AllReadyH.nil
        refine step_append_lies _ rfl (.tmp 154) (.tmp 160) 30 rfl base 3 i3 _ 1 8 Tryd.underlying30 HI3.out HZ3i.out HS3.out HY3.out rfl (by decide) v3 j _ rfl HO2.out ⟨v.heap.size, 0, none⟩ 1 1 [.int .i64 (xs : Int)] rfl rfl (World.news_of_block (heap_new _ _)) (by simp [Value.oneCell']) (by decide) hm1 hm2 HZ2w.out _ rfl ?_
        intro g5 cap w5 hown hgrow hat hlt5
        have HG5 : Hid (v.grownBy w5 v3.ownBlock) := grown_trans (World.grownBy_alloc _ _ _) hgrow
        have HOW := hidden hown
        have HK5 : Hid (Kp [sb, cb] W1 w5) := HK1.out.grow HG5.out (fun k hk => by have := (HO1.out.lt k hk).1; omega)
        have hB5 : Blk w5 cb 32 _ := (HG5.out.block cb HC1.out.box.lt (fun e => by have := (HO1.out.lt cb e.symm).1; have := HC1.out.lt; omega)).trans HC1.out.box
        have c5 : w5.cell? ⟨cb, 7, none⟩ = some v3 := hB5.cell rfl
        have f5 := hB5.frozen 7
        clear hown hgrow hat hlt5 hB5
        have HK6 : Hid (Kp [sb, cb] W1 (w5.setCell ⟨cb, 7, none⟩ (.slice (some ⟨g5, 0, none⟩) (j + 1) cap))) := HK5.out.trans (Kp.set _ _ _ _ _ (by simp))
        refine hK.out _ _ (by exact KS.out _ HK5.out) (fun hHeld11 => ?_)
        clear hK K
        (try simp only [Act.put]); (try simp only [sA]); (try simp only [sB, sC])
        refine tk 9 ?_
        refine wpAnyH_ready (rs := [10]) (by kernel_rfl) (by simp) ?_
        refine AllReadyH.cons (o := _) rfl (fun K hK => ?_) AllReadyH.nil
        (try simp only [gA, gB, gC])
        go_simp
        refine hK.out _ _ (by exact KS.out _ HK6.out) (fun hHeld14 => ?_)
        clear hK K
        (try simp only [Act.put]); (try simp only [sA]); (try simp only [sB, sC])
        refine wpAnyH_done (by kernel_rfl) ?_ _
        refine NoPanic.normal ?_
        have HC6 : Hid (CbAt base (w5.setCell ⟨cb, 7, none⟩ (.slice (some ⟨g5, 0, none⟩) (j + 1) cap)) cb sh v1' v2 (.slice (some ⟨g5, 0, none⟩) (j + 1) cap) cols regs (outs ++ [(xs : Int)])) := HC1.out.push3 (x := (xs : Int)) (u := .slice (some ⟨g5, 0, none⟩) (j + 1) cap) (by rw [HLR.out]; exact HOW.out) HG5.out
        have HLB : Hid (Blk (w5.setCell ⟨cb, 7, none⟩ (.slice (some ⟨g5, 0, none⟩) (j + 1) cap)) sb 48 (stQ (some ⟨ab, ao, none⟩) bd c (P + k1))) := (But.set cb 7 w5 _).blk ((HG5.out.block sb HL1.out.lt (fun e => by have := (HO1.out.lt sb e.symm).1; omega)).trans HL1.out) (by omega)
        generalize w5.setCell ⟨cb, 7, none⟩ (.slice (some ⟨g5, 0, none⟩) (j + 1) cap) = X6 at *
        clear HO1 HO2 HG5 HOW c5 f5 q2v q3v HC1 HL1 HK5 HK1 HK2 HKt1 HKt2 HB1 HB2
        go_wp2
        go_roundw
        case measure => simp [intOf]; omega
        case rel => exact ⟨j + 1, P + k1, _, _, by omega, by simp, HC6.out, HLR2.out, HLB.out, HPL2.out, HPG2.out, HK6.out⟩
       ·have hge : ¬ ((j : Int) < (z1 : Int)) := by omega
        have hj2 : j = z1 := by omega
        obtain ⟨EP, hEP⟩ : ∃ p, p = OP + z1 * k1 := ⟨_, rfl⟩
        have hPL := HPL.out
        rw [hj2, ← hEP] at hPL
        have HPG1 : Hid (P ≤ 8 * n → P = 32 + EP ∧ SpecN nm ⟨sh, cols, regs, outs⟩) := by
         intro hle
         obtain ⟨e1, e2, e3, e4⟩ := HPG.out hle
         rw [hj2] at e1 e2
         refine ⟨by rw [hEP]; exact e1, ⟨HSHS.out, ?_, ?_, ?_⟩⟩
         ·show cols.map ClD.cs = _
          rw [e4]
          unfold colsS k0S k1S
          rw [← HNN.out 64, ← HNN.out 48, ← HNN.out 0, ← HNN.out 32, ← HZE0.out, ← HZE2.out, ← HZE3.out, ← HZE4.out, HW0.out, HW1.out]
         ·show regs = _
          rw [e3]
          unfold regsS regPS k0S k1S
          rw [← HNN.out 64, ← HNN.out 48, ← HNN.out 0, ← HNN.out 32, ← HZE0.out, ← HZE2.out, ← HZE3.out, ← HZE4.out, HW0.out, HW1.out, ← HRPE.out]
         ·show outs = _
          rw [e2]
          unfold outsS outPS regPS k0S k1S
          rw [← HNN.out 64, ← HNN.out 48, ← HNN.out 0, ← HNN.out 16, ← HNN.out 32, ← HZE0.out, ← HZE1.out, ← HZE2.out, ← HZE3.out, ← HZE4.out, HW0.out, HW1.out, ← HRPE.out, ← HOPE.out]
        have HEPE : Hid (endPS nm = EP) := by
         show _ = _
         unfold endPS outPS regPS k0S k1S
         rw [← HNN.out 64, ← HNN.out 48, ← HNN.out 0, ← HNN.out 16, ← HNN.out 32, ← HZE0.out, ← HZE1.out, ← HZE2.out, ← HZE3.out, ← HZE4.out, HW0.out, HW1.out, ← HRPE.out, ← HOPE.out, hEP]
        rw [HEPE.out] at HGOK
        have HOL : Hid (outs.length ≤ 500) := by show _ ≤ _; rw [HLR.out]; omega
        have hbg : ∀ m : Nat, m ≤ 500 → m < big := fun m hm => by unfold big; omega
        obtain ⟨S0, hS0, hC0⟩ := HCB.out.cn (hbg _ (by have := HLC2.out.1; omega)) (fun d hd => hbg _ (HLC2.out.2 d hd)) (hbg _ (by rw [HRL2.out]; omega)) (hbg _ HOL.out)
        have CVC : Hid (Calls Tryd.prog 23 #[.agg (cfA sh v1' v2 v3)] wr fun e w' => e = .returned (.bool (CnOk ⟨sh, cols, regs, outs⟩)) ∧ Below wr.heap.size wr w') := by rw [hS0]; exact configValid_any wr.heap.size wr S0 _ hC0 (Nat.le_refl _)
        have HBGH := hidden hbg
        clear hbg hS0 hC0 HPL HPG hEP hj2 hj hlt
        unfold cfA at CVC
        have e0 : wr.cell? ⟨cb, 0, none⟩ = some (.int .i64 sh.ins) := HCB.out.box.cell rfl
        have e1 : wr.cell? ⟨cb, 1, none⟩ = some (.int .i64 sh.outs) := HCB.out.box.cell rfl
        have e2 : wr.cell? ⟨cb, 2, none⟩ = some (.int .i64 sh.regs) := HCB.out.box.cell rfl
        have e3 : wr.cell? ⟨cb, 3, none⟩ = some (.int .i64 sh.rows) := HCB.out.box.cell rfl
        have e4 : wr.cell? ⟨cb, 4, none⟩ = some (.int .i64 sh.cols) := HCB.out.box.cell rfl
        have e5 : wr.cell? ⟨cb, 5, none⟩ = some (v1') := HCB.out.box.cell rfl
        have e6 : wr.cell? ⟨cb, 6, none⟩ = some (v2) := HCB.out.box.cell rfl
        have e7 : wr.cell? ⟨cb, 7, none⟩ = some (v3) := HCB.out.box.cell rfl
        go_wp2_with fail
        go_at_call 23
        refine CVC.out.mono ?_
        rintro e t1 ⟨rfl, hb1⟩
        have HB1 : Hid (Below wr.heap.size wr t1) := hb1
        have HKt : Hid (Kp [sb, cb] W1 t1) := HKW.out.trans (Below.kp hb1)
        have HCt : Hid (CbAt base t1 cb sh v1' v2 v3 cols regs outs) := HCB.out.kp (gs := [sb]) (Below.kp hb1) (by simp; omega) (by intro g hg; simp at hg; left; omega)
        have HSt : Hid (Blk t1 sb 48 (stQ (some ⟨ab, ao, none⟩) bd c P)) := HSB.out.below hb1
        clear hb1 CVC e0 e1 e2 e3 e4 e5 e6 e7 y1 HCB HSB HKW HB1
        have HZ0t : Hid (Blk t1 h0 32 zeroA) := HKt.out.blk HZ0.out (by simp; omega)
        have HZ1t : Hid (Blk t1 h1 40 #[.int .i64 0, .int .i64 0]) := HKt.out.blk HZ1.out (by simp; omega)
        have HZ2t : Hid (Blk t1 h2 40 #[.int .i64 18, .int .i64 0]) := HKt.out.blk HZ2.out (by simp; omega)
        have HBt : Hid (Below w.heap.size w t1) := HBW.out.trans (HKt.out.below (by intro g hg; simp at hg; omega) HBW.out.size)
        have so : t1.cell? ⟨sb, 3, none⟩ = some (.bool (decide (8 * bd.length < P))) := HSt.out.cell rfl
        rw [HBDL.out] at so
        go_wp2_with fail
        by_cases hov : 8 * n < P
        ·have hov2 : decide (8 * n < P) = true := decide_eq_true hov
         rw [hov2] at so
         have HGK : Hid (gOk bs = false) := by
          show _ = _
          rw [HGOK.out, endBad_over bt EP _ (by have := HBTL.out; omega)]
          rfl
         clear hov2
         refine wp_region_noPanic ?_
         refine wp_region_held_drew (S := (fun w' => w'.cell? ⟨sb, 3, none⟩ = some (.bool true))) (by kernel_rfl) (by exact so) (fun hHeld => ?_)
         refine tk 0 ?_
         refine tk 1 ?_
         refine tk 2 ?_
         refine tk 3 ?_
         refine tk 4 ?_
         refine tu 5 ?_
         refine tu 6 ?_
         refine tk 7 ?_
         refine tk 8 ?_
         refine tu 9 ?_
         refine tu 10 ?_
         refine tu 11 ?_
         refine tu 12 ?_
         refine tu 13 ?_
         refine tu 14 ?_
         refine tk 15 ?_
         refine wpAnyH_done (by kernel_rfl) ?_ _
         refine NoPanic.normal ?_
         clear so hHeld
         obtain ⟨t1d, ht1d⟩ : ∃ x, x = t1.drew := ⟨_, rfl⟩
         rw [← ht1d]
         have HZ0' : Hid (Blk t1d h0 32 zeroA) := by rw [ht1d]; exact HZ0t.out.drewN 1
         have HZ1' : Hid (Blk t1d h1 40 #[.int .i64 0, .int .i64 0]) := by rw [ht1d]; exact HZ1t.out.drewN 1
         have HZ2' : Hid (Blk t1d h2 40 #[.int .i64 18, .int .i64 0]) := by rw [ht1d]; exact HZ2t.out.drewN 1
         have HBX : Hid (Below w.heap.size w t1d) := by rw [ht1d]; exact Below.drew HBt.out
         clear HZ0 HZ1 HZ2 HZ0t HZ1t HZ2t
         have HZ0 := HZ0'
         have HZ1 := HZ1'
         have HZ2 := HZ2'
         clear HZ0' HZ1' HZ2'
         clear ht1d
         go_wp2_with fail
         obtain ⟨wd, hwd⟩ : ∃ x, x = t1d.drew := ⟨_, rfl⟩
         have HD0 : Hid (Blk wd h0 32 zeroA) := by rw [hwd]; exact HZ0.out.drewN 1
         have HD1 : Hid (Blk wd h1 40 #[.int .i64 0, .int .i64 0]) := by rw [hwd]; exact HZ1.out.drewN 1
         have HD2 : Hid (Blk wd h2 40 #[.int .i64 18, .int .i64 0]) := by rw [hwd]; exact HZ2.out.drewN 1
         have HBD : Hid (Below w.heap.size w wd) := by rw [hwd]; exact Below.drew HBX.out
         have HR0 : Hid (Blk (World.setCell (World.setCell (World.setCell (World.setCell (World.setCell (World.setCell (World.setCell (World.setCell wd ⟨h0, 0, none⟩ (.int .i64 0)) ⟨h0, 1, none⟩ (.int .i64 0)) ⟨h0, 2, none⟩ (.int .i64 0)) ⟨h0, 3, none⟩ (.int .i64 0)) ⟨h0, 4, none⟩ (.int .i64 0)) ⟨h0, 5, none⟩ (.slice none 0 0)) ⟨h0, 6, none⟩ (.slice none 0 0)) ⟨h0, 7, none⟩ (.slice none 0 0)) h0 32 zeroA) := (Blk.set (Blk.set (Blk.set (Blk.set (Blk.set (Blk.set (Blk.set (Blk.set HD0.out 0 _) 1 _) 2 _) 3 _) 4 _) 5 _) 6 _) 7 _)
         have HA1 : Hid (Blk (World.setCell (World.setCell (World.setCell (World.setCell (World.setCell (World.setCell (World.setCell (World.setCell wd ⟨h0, 0, none⟩ (.int .i64 0)) ⟨h0, 1, none⟩ (.int .i64 0)) ⟨h0, 2, none⟩ (.int .i64 0)) ⟨h0, 3, none⟩ (.int .i64 0)) ⟨h0, 4, none⟩ (.int .i64 0)) ⟨h0, 5, none⟩ (.slice none 0 0)) ⟨h0, 6, none⟩ (.slice none 0 0)) ⟨h0, 7, none⟩ (.slice none 0 0)) h1 40 #[.int .i64 0, .int .i64 0]) := (But.blk (But.set h0 7 _ _) (But.blk (But.set h0 6 _ _) (But.blk (But.set h0 5 _ _) (But.blk (But.set h0 4 _ _) (But.blk (But.set h0 3 _ _) (But.blk (But.set h0 2 _ _) (But.blk (But.set h0 1 _ _) (But.blk (But.set h0 0 _ _) HD1.out (by omega)) (by omega)) (by omega)) (by omega)) (by omega)) (by omega)) (by omega)) (by omega))
         have HA2 : Hid (Blk (World.setCell (World.setCell (World.setCell (World.setCell (World.setCell (World.setCell (World.setCell (World.setCell wd ⟨h0, 0, none⟩ (.int .i64 0)) ⟨h0, 1, none⟩ (.int .i64 0)) ⟨h0, 2, none⟩ (.int .i64 0)) ⟨h0, 3, none⟩ (.int .i64 0)) ⟨h0, 4, none⟩ (.int .i64 0)) ⟨h0, 5, none⟩ (.slice none 0 0)) ⟨h0, 6, none⟩ (.slice none 0 0)) ⟨h0, 7, none⟩ (.slice none 0 0)) h2 40 #[.int .i64 18, .int .i64 0]) := (But.blk (But.set h0 7 _ _) (But.blk (But.set h0 6 _ _) (But.blk (But.set h0 5 _ _) (But.blk (But.set h0 4 _ _) (But.blk (But.set h0 3 _ _) (But.blk (But.set h0 2 _ _) (But.blk (But.set h0 1 _ _) (But.blk (But.set h0 0 _ _) HD2.out (by omega)) (by omega)) (by omega)) (by omega)) (by omega)) (by omega)) (by omega)) (by omega))
         have HK0 : Hid (Kp [h0, h1] wd (World.setCell (World.setCell (World.setCell (World.setCell (World.setCell (World.setCell (World.setCell (World.setCell wd ⟨h0, 0, none⟩ (.int .i64 0)) ⟨h0, 1, none⟩ (.int .i64 0)) ⟨h0, 2, none⟩ (.int .i64 0)) ⟨h0, 3, none⟩ (.int .i64 0)) ⟨h0, 4, none⟩ (.int .i64 0)) ⟨h0, 5, none⟩ (.slice none 0 0)) ⟨h0, 6, none⟩ (.slice none 0 0)) ⟨h0, 7, none⟩ (.slice none 0 0))) := (((((((((Kp.refl [h0, h1] wd).trans (Kp.set _ _ 0 _ _ (by simp))).trans (Kp.set _ _ 1 _ _ (by simp))).trans (Kp.set _ _ 2 _ _ (by simp))).trans (Kp.set _ _ 3 _ _ (by simp))).trans (Kp.set _ _ 4 _ _ (by simp))).trans (Kp.set _ _ 5 _ _ (by simp))).trans (Kp.set _ _ 6 _ _ (by simp))).trans (Kp.set _ _ 7 _ _ (by simp)))
         have r0 : wd.cell? ⟨h0, 0, none⟩ = some (.int .i64 0) := HD0.out.cell rfl
         have rf0 := HD0.out.frozen 0
         have r1 : wd.cell? ⟨h0, 1, none⟩ = some (.int .i64 0) := HD0.out.cell rfl
         have rf1 := HD0.out.frozen 1
         have r2 : wd.cell? ⟨h0, 2, none⟩ = some (.int .i64 0) := HD0.out.cell rfl
         have rf2 := HD0.out.frozen 2
         have r3 : wd.cell? ⟨h0, 3, none⟩ = some (.int .i64 0) := HD0.out.cell rfl
         have rf3 := HD0.out.frozen 3
         have r4 : wd.cell? ⟨h0, 4, none⟩ = some (.int .i64 0) := HD0.out.cell rfl
         have rf4 := HD0.out.frozen 4
         have r5 : wd.cell? ⟨h0, 5, none⟩ = some (.slice none 0 0) := HD0.out.cell rfl
         have rf5 := HD0.out.frozen 5
         have r6 : wd.cell? ⟨h0, 6, none⟩ = some (.slice none 0 0) := HD0.out.cell rfl
         have rf6 := HD0.out.frozen 6
         have r7 : wd.cell? ⟨h0, 7, none⟩ = some (.slice none 0 0) := HD0.out.cell rfl
         have rf7 := HD0.out.frozen 7
         have KS : Hid (∀ w', Blk w' h2 40 #[.int .i64 18, .int .i64 0] → (fun w' => w'.cell? ⟨h2, 0, none⟩ = some (.int .i64 18) ∧ w'.cell? ⟨h2, 1, none⟩ = some (.int .i64 0)) w') := fun w' hw' => ⟨hw'.cell rfl, hw'.cell rfl⟩
         refine wp_region_noPanic ?_
         refine wp_region_held_drew (S := (fun w' => w'.cell? ⟨h2, 0, none⟩ = some (.int .i64 18) ∧ w'.cell? ⟨h2, 1, none⟩ = some (.int .i64 0))) (by kernel_rfl) (by exact KS.out _ (by rw [← hwd]; exact HD2.out)) (fun hHeld => ?_)
         rw [← hwd] at hHeld ⊢
         clear hwd
         refine tk 0 ?_
         refine tk 1 ?_
         refine wpAnyH_ready (rs := [2]) (by kernel_rfl) (by simp) ?_
         refine AllReadyH.cons (o := _) rfl (fun K hK => ?_) AllReadyH.nil
         (try simp only [gA, gB, gC])
         go_simp
         refine hK.out _ _ (by exact KS.out _ HA2.out) (fun hHeld1 => ?_)
         clear hK K
         clear r0 rf0 r1 rf1 r2 rf2 r3 rf3 r4 rf4 r5 rf5 r6 rf6 r7 rf7 hHeld
         generalize (World.setCell (World.setCell (World.setCell (World.setCell (World.setCell (World.setCell (World.setCell (World.setCell wd ⟨h0, 0, none⟩ (.int .i64 0)) ⟨h0, 1, none⟩ (.int .i64 0)) ⟨h0, 2, none⟩ (.int .i64 0)) ⟨h0, 3, none⟩ (.int .i64 0)) ⟨h0, 4, none⟩ (.int .i64 0)) ⟨h0, 5, none⟩ (.slice none 0 0)) ⟨h0, 6, none⟩ (.slice none 0 0)) ⟨h0, 7, none⟩ (.slice none 0 0)) = Y at *
         clear HD0 HD1 HD2
         have HR1 : Hid (Blk (World.setCell (World.setCell Y ⟨h1, 0, none⟩ (.int .i64 18)) ⟨h1, 1, none⟩ (.int .i64 0)) h1 40 #[.int .i64 18, .int .i64 0]) := (HA1.out.set 0 _).set 1 _
         have HR2 : Hid (Blk (World.setCell (World.setCell Y ⟨h1, 0, none⟩ (.int .i64 18)) ⟨h1, 1, none⟩ (.int .i64 0)) h0 32 zeroA) := (But.set h1 1 _ _).blk ((But.set h1 0 _ _).blk HR0.out (by omega)) (by omega)
         have HR3 : Hid (Blk (World.setCell (World.setCell Y ⟨h1, 0, none⟩ (.int .i64 18)) ⟨h1, 1, none⟩ (.int .i64 0)) h2 40 #[.int .i64 18, .int .i64 0]) := (But.set h1 1 _ _).blk ((But.set h1 0 _ _).blk HA2.out (by omega)) (by omega)
         have HK1 : Hid (Kp [h0, h1] wd (World.setCell (World.setCell Y ⟨h1, 0, none⟩ (.int .i64 18)) ⟨h1, 1, none⟩ (.int .i64 0))) := (HK0.out.trans (Kp.set _ _ _ _ _ (by simp))).trans (Kp.set _ _ _ _ _ (by simp))
         have s0 : Y.cell? ⟨h1, 0, none⟩ = some (.int .i64 0) := HA1.out.cell rfl
         have sf0 := HA1.out.frozen 0
         have s1 : Y.cell? ⟨h1, 1, none⟩ = some (.int .i64 0) := HA1.out.cell rfl
         have sf1 := HA1.out.frozen 1
         (try simp only [Act.put]); (try simp only [sA]); (try simp only [sB, sC])
         refine wpAnyH_ready (rs := [3]) (by kernel_rfl) (by simp) ?_
         refine AllReadyH.cons (o := _) rfl (fun K hK => ?_) AllReadyH.nil
         (try simp only [gA, gB, gC])
         go_simp
         refine hK.out _ _ (by exact KS.out _ HR3.out) (fun hHeld2 => ?_)
         clear hK K
         (try simp only [Act.put]); (try simp only [sA]); (try simp only [sB, sC])
         refine wpAnyH_done (by kernel_rfl) ?_ _
         refine NoPanic.normal ?_
         clear s0 sf0 s1 sf1 hHeld1 hHeld2
         generalize (World.setCell (World.setCell Y ⟨h1, 0, none⟩ (.int .i64 18)) ⟨h1, 1, none⟩ (.int .i64 0)) = Z at *
         have HBZ : Hid (Below w.heap.size w Z) := HBD.out.trans (HK1.out.below (by intro g hg; simp at hg; omega) HBD.out.size)
         clear HBD HR0 HA1 HA2 HR3 HK0 HK1 KS
         have r0 : Z.cell? ⟨h0, 0, none⟩ = some (.int .i64 0) := HR2.out.cell rfl
         have r1 : Z.cell? ⟨h0, 1, none⟩ = some (.int .i64 0) := HR2.out.cell rfl
         have r2 : Z.cell? ⟨h0, 2, none⟩ = some (.int .i64 0) := HR2.out.cell rfl
         have r3 : Z.cell? ⟨h0, 3, none⟩ = some (.int .i64 0) := HR2.out.cell rfl
         have r4 : Z.cell? ⟨h0, 4, none⟩ = some (.int .i64 0) := HR2.out.cell rfl
         have r5 : Z.cell? ⟨h0, 5, none⟩ = some (.slice none 0 0) := HR2.out.cell rfl
         have r6 : Z.cell? ⟨h0, 6, none⟩ = some (.slice none 0 0) := HR2.out.cell rfl
         have r7 : Z.cell? ⟨h0, 7, none⟩ = some (.slice none 0 0) := HR2.out.cell rfl
         have s0 : Z.cell? ⟨h1, 0, none⟩ = some (.int .i64 18) := HR1.out.cell rfl
         have s1 : Z.cell? ⟨h1, 1, none⟩ = some (.int .i64 0) := HR1.out.cell rfl
         go_wp2
         refine bodyPost_ret (v := .tuple #[.agg zeroA, .agg #[.int .i64 18, .int .i64 0]]) (by unfold zeroA cfA; simp [results, Tryd.results8, go_sem, *]) rfl ?_
         exact ⟨fun h => absurd (h.symm.trans HGK.out) (by decide), fun _ => ⟨rfl, HBZ.out⟩⟩
        ·have hov2 : decide (8 * n < P) = false := decide_eq_false hov
         rw [hov2] at so
         obtain ⟨hPe, hspec⟩ := HPG1.out (by omega)
         have HSPEC := hidden hspec
         have hcn : CnOk ⟨sh, cols, regs, outs⟩ = selsOk nm := cnOk_spec hspec (by rw [← HSHS.out]; exact HOK.out)
         rw [hcn]
         clear hov2 hspec hcn
         by_cases hsl : selsOk nm = false
         ·rw [hsl]
          have HGK : Hid (gOk bs = false) := by
           show _ = _
           rw [HGOK.out, hsl]
           show (!endBad bt EP true) = false
           rw [endBad_wrong]; rfl
          clear hsl
          refine wp_region_noPanic ?_
          refine wp_region_held_drew (S := (fun w' => w'.cell? ⟨sb, 3, none⟩ = some (.bool false))) (by kernel_rfl) (by exact so) (fun hHeld => ?_)
          refine tk 0 ?_
          refine tk 1 ?_
          refine tk 2 ?_
          refine tk 3 ?_
          refine tk 4 ?_
          refine tk 5 ?_
          refine tk 6 ?_
          refine tk 7 ?_
          refine tk 8 ?_
          refine tu 9 ?_
          refine tu 10 ?_
          refine tu 11 ?_
          refine tu 12 ?_
          refine tu 13 ?_
          refine tu 14 ?_
          refine tk 15 ?_
          refine wpAnyH_done (by kernel_rfl) ?_ _
          refine NoPanic.normal ?_
          clear so hHeld
          obtain ⟨t1d, ht1d⟩ : ∃ x, x = t1.drew := ⟨_, rfl⟩
          rw [← ht1d]
          have HZ0' : Hid (Blk t1d h0 32 zeroA) := by rw [ht1d]; exact HZ0t.out.drewN 1
          have HZ1' : Hid (Blk t1d h1 40 #[.int .i64 0, .int .i64 0]) := by rw [ht1d]; exact HZ1t.out.drewN 1
          have HZ2' : Hid (Blk t1d h2 40 #[.int .i64 18, .int .i64 0]) := by rw [ht1d]; exact HZ2t.out.drewN 1
          have HBX : Hid (Below w.heap.size w t1d) := by rw [ht1d]; exact Below.drew HBt.out
          clear HZ0 HZ1 HZ2 HZ0t HZ1t HZ2t
          have HZ0 := HZ0'
          have HZ1 := HZ1'
          have HZ2 := HZ2'
          clear HZ0' HZ1' HZ2'
          clear ht1d
          go_wp2_with fail
          obtain ⟨wd, hwd⟩ : ∃ x, x = t1d.drew := ⟨_, rfl⟩
          have HD0 : Hid (Blk wd h0 32 zeroA) := by rw [hwd]; exact HZ0.out.drewN 1
          have HD1 : Hid (Blk wd h1 40 #[.int .i64 0, .int .i64 0]) := by rw [hwd]; exact HZ1.out.drewN 1
          have HD2 : Hid (Blk wd h2 40 #[.int .i64 18, .int .i64 0]) := by rw [hwd]; exact HZ2.out.drewN 1
          have HBD : Hid (Below w.heap.size w wd) := by rw [hwd]; exact Below.drew HBX.out
          have HR0 : Hid (Blk (World.setCell (World.setCell (World.setCell (World.setCell (World.setCell (World.setCell (World.setCell (World.setCell wd ⟨h0, 0, none⟩ (.int .i64 0)) ⟨h0, 1, none⟩ (.int .i64 0)) ⟨h0, 2, none⟩ (.int .i64 0)) ⟨h0, 3, none⟩ (.int .i64 0)) ⟨h0, 4, none⟩ (.int .i64 0)) ⟨h0, 5, none⟩ (.slice none 0 0)) ⟨h0, 6, none⟩ (.slice none 0 0)) ⟨h0, 7, none⟩ (.slice none 0 0)) h0 32 zeroA) := (Blk.set (Blk.set (Blk.set (Blk.set (Blk.set (Blk.set (Blk.set (Blk.set HD0.out 0 _) 1 _) 2 _) 3 _) 4 _) 5 _) 6 _) 7 _)
          have HA1 : Hid (Blk (World.setCell (World.setCell (World.setCell (World.setCell (World.setCell (World.setCell (World.setCell (World.setCell wd ⟨h0, 0, none⟩ (.int .i64 0)) ⟨h0, 1, none⟩ (.int .i64 0)) ⟨h0, 2, none⟩ (.int .i64 0)) ⟨h0, 3, none⟩ (.int .i64 0)) ⟨h0, 4, none⟩ (.int .i64 0)) ⟨h0, 5, none⟩ (.slice none 0 0)) ⟨h0, 6, none⟩ (.slice none 0 0)) ⟨h0, 7, none⟩ (.slice none 0 0)) h1 40 #[.int .i64 0, .int .i64 0]) := (But.blk (But.set h0 7 _ _) (But.blk (But.set h0 6 _ _) (But.blk (But.set h0 5 _ _) (But.blk (But.set h0 4 _ _) (But.blk (But.set h0 3 _ _) (But.blk (But.set h0 2 _ _) (But.blk (But.set h0 1 _ _) (But.blk (But.set h0 0 _ _) HD1.out (by omega)) (by omega)) (by omega)) (by omega)) (by omega)) (by omega)) (by omega)) (by omega))
          have HA2 : Hid (Blk (World.setCell (World.setCell (World.setCell (World.setCell (World.setCell (World.setCell (World.setCell (World.setCell wd ⟨h0, 0, none⟩ (.int .i64 0)) ⟨h0, 1, none⟩ (.int .i64 0)) ⟨h0, 2, none⟩ (.int .i64 0)) ⟨h0, 3, none⟩ (.int .i64 0)) ⟨h0, 4, none⟩ (.int .i64 0)) ⟨h0, 5, none⟩ (.slice none 0 0)) ⟨h0, 6, none⟩ (.slice none 0 0)) ⟨h0, 7, none⟩ (.slice none 0 0)) h2 40 #[.int .i64 18, .int .i64 0]) := (But.blk (But.set h0 7 _ _) (But.blk (But.set h0 6 _ _) (But.blk (But.set h0 5 _ _) (But.blk (But.set h0 4 _ _) (But.blk (But.set h0 3 _ _) (But.blk (But.set h0 2 _ _) (But.blk (But.set h0 1 _ _) (But.blk (But.set h0 0 _ _) HD2.out (by omega)) (by omega)) (by omega)) (by omega)) (by omega)) (by omega)) (by omega)) (by omega))
          have HK0 : Hid (Kp [h0, h1] wd (World.setCell (World.setCell (World.setCell (World.setCell (World.setCell (World.setCell (World.setCell (World.setCell wd ⟨h0, 0, none⟩ (.int .i64 0)) ⟨h0, 1, none⟩ (.int .i64 0)) ⟨h0, 2, none⟩ (.int .i64 0)) ⟨h0, 3, none⟩ (.int .i64 0)) ⟨h0, 4, none⟩ (.int .i64 0)) ⟨h0, 5, none⟩ (.slice none 0 0)) ⟨h0, 6, none⟩ (.slice none 0 0)) ⟨h0, 7, none⟩ (.slice none 0 0))) := (((((((((Kp.refl [h0, h1] wd).trans (Kp.set _ _ 0 _ _ (by simp))).trans (Kp.set _ _ 1 _ _ (by simp))).trans (Kp.set _ _ 2 _ _ (by simp))).trans (Kp.set _ _ 3 _ _ (by simp))).trans (Kp.set _ _ 4 _ _ (by simp))).trans (Kp.set _ _ 5 _ _ (by simp))).trans (Kp.set _ _ 6 _ _ (by simp))).trans (Kp.set _ _ 7 _ _ (by simp)))
          have r0 : wd.cell? ⟨h0, 0, none⟩ = some (.int .i64 0) := HD0.out.cell rfl
          have rf0 := HD0.out.frozen 0
          have r1 : wd.cell? ⟨h0, 1, none⟩ = some (.int .i64 0) := HD0.out.cell rfl
          have rf1 := HD0.out.frozen 1
          have r2 : wd.cell? ⟨h0, 2, none⟩ = some (.int .i64 0) := HD0.out.cell rfl
          have rf2 := HD0.out.frozen 2
          have r3 : wd.cell? ⟨h0, 3, none⟩ = some (.int .i64 0) := HD0.out.cell rfl
          have rf3 := HD0.out.frozen 3
          have r4 : wd.cell? ⟨h0, 4, none⟩ = some (.int .i64 0) := HD0.out.cell rfl
          have rf4 := HD0.out.frozen 4
          have r5 : wd.cell? ⟨h0, 5, none⟩ = some (.slice none 0 0) := HD0.out.cell rfl
          have rf5 := HD0.out.frozen 5
          have r6 : wd.cell? ⟨h0, 6, none⟩ = some (.slice none 0 0) := HD0.out.cell rfl
          have rf6 := HD0.out.frozen 6
          have r7 : wd.cell? ⟨h0, 7, none⟩ = some (.slice none 0 0) := HD0.out.cell rfl
          have rf7 := HD0.out.frozen 7
          have KS : Hid (∀ w', Blk w' h2 40 #[.int .i64 18, .int .i64 0] → (fun w' => w'.cell? ⟨h2, 0, none⟩ = some (.int .i64 18) ∧ w'.cell? ⟨h2, 1, none⟩ = some (.int .i64 0)) w') := fun w' hw' => ⟨hw'.cell rfl, hw'.cell rfl⟩
          refine wp_region_noPanic ?_
          refine wp_region_held_drew (S := (fun w' => w'.cell? ⟨h2, 0, none⟩ = some (.int .i64 18) ∧ w'.cell? ⟨h2, 1, none⟩ = some (.int .i64 0))) (by kernel_rfl) (by exact KS.out _ (by rw [← hwd]; exact HD2.out)) (fun hHeld => ?_)
          rw [← hwd] at hHeld ⊢
          clear hwd
          refine tk 0 ?_
          refine tk 1 ?_
          refine wpAnyH_ready (rs := [2]) (by kernel_rfl) (by simp) ?_
          refine AllReadyH.cons (o := _) rfl (fun K hK => ?_) AllReadyH.nil
          (try simp only [gA, gB, gC])
          go_simp
          refine hK.out _ _ (by exact KS.out _ HA2.out) (fun hHeld1 => ?_)
          clear hK K
          clear r0 rf0 r1 rf1 r2 rf2 r3 rf3 r4 rf4 r5 rf5 r6 rf6 r7 rf7 hHeld
          generalize (World.setCell (World.setCell (World.setCell (World.setCell (World.setCell (World.setCell (World.setCell (World.setCell wd ⟨h0, 0, none⟩ (.int .i64 0)) ⟨h0, 1, none⟩ (.int .i64 0)) ⟨h0, 2, none⟩ (.int .i64 0)) ⟨h0, 3, none⟩ (.int .i64 0)) ⟨h0, 4, none⟩ (.int .i64 0)) ⟨h0, 5, none⟩ (.slice none 0 0)) ⟨h0, 6, none⟩ (.slice none 0 0)) ⟨h0, 7, none⟩ (.slice none 0 0)) = Y at *
          clear HD0 HD1 HD2
          have HR1 : Hid (Blk (World.setCell (World.setCell Y ⟨h1, 0, none⟩ (.int .i64 18)) ⟨h1, 1, none⟩ (.int .i64 0)) h1 40 #[.int .i64 18, .int .i64 0]) := (HA1.out.set 0 _).set 1 _
          have HR2 : Hid (Blk (World.setCell (World.setCell Y ⟨h1, 0, none⟩ (.int .i64 18)) ⟨h1, 1, none⟩ (.int .i64 0)) h0 32 zeroA) := (But.set h1 1 _ _).blk ((But.set h1 0 _ _).blk HR0.out (by omega)) (by omega)
          have HR3 : Hid (Blk (World.setCell (World.setCell Y ⟨h1, 0, none⟩ (.int .i64 18)) ⟨h1, 1, none⟩ (.int .i64 0)) h2 40 #[.int .i64 18, .int .i64 0]) := (But.set h1 1 _ _).blk ((But.set h1 0 _ _).blk HA2.out (by omega)) (by omega)
          have HK1 : Hid (Kp [h0, h1] wd (World.setCell (World.setCell Y ⟨h1, 0, none⟩ (.int .i64 18)) ⟨h1, 1, none⟩ (.int .i64 0))) := (HK0.out.trans (Kp.set _ _ _ _ _ (by simp))).trans (Kp.set _ _ _ _ _ (by simp))
          have s0 : Y.cell? ⟨h1, 0, none⟩ = some (.int .i64 0) := HA1.out.cell rfl
          have sf0 := HA1.out.frozen 0
          have s1 : Y.cell? ⟨h1, 1, none⟩ = some (.int .i64 0) := HA1.out.cell rfl
          have sf1 := HA1.out.frozen 1
          (try simp only [Act.put]); (try simp only [sA]); (try simp only [sB, sC])
          refine wpAnyH_ready (rs := [3]) (by kernel_rfl) (by simp) ?_
          refine AllReadyH.cons (o := _) rfl (fun K hK => ?_) AllReadyH.nil
          (try simp only [gA, gB, gC])
          go_simp
          refine hK.out _ _ (by exact KS.out _ HR3.out) (fun hHeld2 => ?_)
          clear hK K
          (try simp only [Act.put]); (try simp only [sA]); (try simp only [sB, sC])
          refine wpAnyH_done (by kernel_rfl) ?_ _
          refine NoPanic.normal ?_
          clear s0 sf0 s1 sf1 hHeld1 hHeld2
          generalize (World.setCell (World.setCell Y ⟨h1, 0, none⟩ (.int .i64 18)) ⟨h1, 1, none⟩ (.int .i64 0)) = Z at *
          have HBZ : Hid (Below w.heap.size w Z) := HBD.out.trans (HK1.out.below (by intro g hg; simp at hg; omega) HBD.out.size)
          clear HBD HR0 HA1 HA2 HR3 HK0 HK1 KS
          have r0 : Z.cell? ⟨h0, 0, none⟩ = some (.int .i64 0) := HR2.out.cell rfl
          have r1 : Z.cell? ⟨h0, 1, none⟩ = some (.int .i64 0) := HR2.out.cell rfl
          have r2 : Z.cell? ⟨h0, 2, none⟩ = some (.int .i64 0) := HR2.out.cell rfl
          have r3 : Z.cell? ⟨h0, 3, none⟩ = some (.int .i64 0) := HR2.out.cell rfl
          have r4 : Z.cell? ⟨h0, 4, none⟩ = some (.int .i64 0) := HR2.out.cell rfl
          have r5 : Z.cell? ⟨h0, 5, none⟩ = some (.slice none 0 0) := HR2.out.cell rfl
          have r6 : Z.cell? ⟨h0, 6, none⟩ = some (.slice none 0 0) := HR2.out.cell rfl
          have r7 : Z.cell? ⟨h0, 7, none⟩ = some (.slice none 0 0) := HR2.out.cell rfl
          have s0 : Z.cell? ⟨h1, 0, none⟩ = some (.int .i64 18) := HR1.out.cell rfl
          have s1 : Z.cell? ⟨h1, 1, none⟩ = some (.int .i64 0) := HR1.out.cell rfl
          go_wp2
          refine bodyPost_ret (v := .tuple #[.agg zeroA, .agg #[.int .i64 18, .int .i64 0]]) (by unfold zeroA cfA; simp [results, Tryd.results8, go_sem, *]) rfl ?_
          exact ⟨fun h => absurd (h.symm.trans HGK.out) (by decide), fun _ => ⟨rfl, HBZ.out⟩⟩
         ·have hsl2 : selsOk nm = true := by cases h : selsOk nm <;> simp_all
          rw [hsl2]
          rw [hsl2] at HGOK
          clear hsl
          have HGOK2 : Hid (gOk bs = !endBad bt EP false) := HGOK.out
          clear hsl2 HGOK
          have HSPB : Hid (SpecN (numN bt) ⟨sh, cols, regs, outs⟩) := by rw [← HNM.out]; exact HSPEC.out
          have HSOB : Hid ((shS (numN bt)).ok = true) := by rw [← HNM.out, ← HSHS.out]; exact HOK.out
          have ENCC : Hid (∀ v, Below t1.heap.size t1 v → Calls Tryd.prog 5 #[.agg (cfA sh v1' v2 v3)] v fun e w' => ∃ X u, e = .returned u ∧ Enc X (32 + EP) (fB bt) ∧ w'.ownsRow v.heap.size 5 1 u (X.length + 4) ((X ++ sumB (crcV X)).map byV) ∧ Below v.heap.size v w') := fun v hv => by
           have hcv := HCt.out.kp (gs := [sb]) (Below.kp hv) (by simp; omega) (by intro g hg; simp at hg; left; omega)
           obtain ⟨S1, hS1, hC1⟩ := hcv.cn (HBGH.out _ (by have := HLC2.out.1; omega)) (fun d hd => HBGH.out _ (HLC2.out.2 d hd)) (HBGH.out _ (by rw [HRL2.out]; omega)) (HBGH.out _ HOL.out)
           have h := encode_doc v.heap.size v (Nat.le_refl _) S1 _ hC1 bt HSPB.out HSOB.out
           rw [← HNM.out, HEPE.out, ← hS1] at h
           exact h
          obtain ⟨sbs, HSBS⟩ : ∃ s, Hid (s = strB bs) := ⟨_, rfl⟩
          have KE : Hid (∀ v, Below t1.heap.size t1 v → (fun w' => w'.cell? ⟨sb, 3, none⟩ = some (.bool false) ∧ w'.cell? ⟨cb, 0, none⟩ = some (.int .i64 sh.ins) ∧ w'.cell? ⟨cb, 1, none⟩ = some (.int .i64 sh.outs) ∧ w'.cell? ⟨cb, 2, none⟩ = some (.int .i64 sh.regs) ∧ w'.cell? ⟨cb, 3, none⟩ = some (.int .i64 sh.rows) ∧ w'.cell? ⟨cb, 4, none⟩ = some (.int .i64 sh.cols) ∧ w'.cell? ⟨cb, 5, none⟩ = some (v1') ∧ w'.cell? ⟨cb, 6, none⟩ = some (v2) ∧ w'.cell? ⟨cb, 7, none⟩ = some (v3) ∧ (convert 22 9 (.slice (some ⟨ab, ao, none⟩) (n + 4) c)).run Tryd.prog w' = .ok (.string sbs) w') v) := fun v hv => by
           have hbx := HCt.out.box.below hv
           refine ⟨(hv.cell (p := ⟨sb, 3, none⟩) HSt.out.lt).trans so, hbx.cell rfl, hbx.cell rfl, hbx.cell rfl, hbx.cell rfl, hbx.cell rfl, hbx.cell rfl, hbx.cell rfl, hbx.cell rfl, ?_⟩
           rw [HSBS.out]
           exact KVB.out v (HBt.out.trans (hv.mono HBt.out.size))
          have HBD0 : Hid (Below t1.heap.size t1 t1.drew) := Below.drew (Below.refl _ _)
          unfold cfA at ENCC
          refine wp_region_noPanic ?_
          refine wp_region_held_drew (S := (fun w' => w'.cell? ⟨sb, 3, none⟩ = some (.bool false) ∧ w'.cell? ⟨cb, 0, none⟩ = some (.int .i64 sh.ins) ∧ w'.cell? ⟨cb, 1, none⟩ = some (.int .i64 sh.outs) ∧ w'.cell? ⟨cb, 2, none⟩ = some (.int .i64 sh.regs) ∧ w'.cell? ⟨cb, 3, none⟩ = some (.int .i64 sh.rows) ∧ w'.cell? ⟨cb, 4, none⟩ = some (.int .i64 sh.cols) ∧ w'.cell? ⟨cb, 5, none⟩ = some (v1') ∧ w'.cell? ⟨cb, 6, none⟩ = some (v2) ∧ w'.cell? ⟨cb, 7, none⟩ = some (v3) ∧ (convert 22 9 (.slice (some ⟨ab, ao, none⟩) (n + 4) c)).run Tryd.prog w' = .ok (.string sbs) w')) (by kernel_rfl) (by exact KE.out _ HBD0.out) (fun hHeld => ?_)
          refine tk 0 ?_
          refine tk 1 ?_
          refine tk 2 ?_
          refine tk 3 ?_
          refine tk 4 ?_
          refine tk 5 ?_
          refine tk 6 ?_
          refine tk 7 ?_
          refine tk 8 ?_
          refine tk 9 ?_
          refine tk 12 ?_
          refine tk 13 ?_
          refine wpAnyH_ready (rs := [10]) (by kernel_rfl) (by simp) ?_
          refine AllReadyH.cons (o := _) rfl (fun K hK => ?_) AllReadyH.nil
          (try simp only [gA, gB, gC])
          go_simp
          go_at_call 5
          refine (ENCC.out t1.drew HBD0.out).mono ?_
          rintro e t2 ⟨X, v, rfl, hex, how, hb2⟩
          have HB2 : Hid (Below t1.drew.heap.size t1.drew t2) := hb2
          have HEX := hidden hex
          obtain ⟨xa, xc, hxv, hxr⟩ := own_row (f := byteC) (xs := X ++ sumB (crcV X)) (by rw [flat_one byteC byV (fun _ => rfl)]; exact how) (by rw [List.length_append]; rfl) (fun _ => rfl)
          subst hxv
          have hxb : ∀ x, x ∈ X ++ sumB (crcV X) → x < 256 := by
           intro x hx
           rcases List.mem_append.1 hx with hx | hx
           ·exact hex.byte x hx
           ·simp [sumB] at hx; omega
          have hcvx := conv_bytes hxr hxb xc
          have hxl : (X ++ sumB (crcV X)).length = X.length + 4 := by rw [List.length_append]; rfl
          rw [hxl] at hcvx
          have HEQ : Hid (((strB (X ++ sumB (crcV X))).toList == sbs.toList) = decide (X ++ sumB (crcV X) = bs)) := by rw [HSBS.out]; exact strB_eq hxb HBBY.out
          generalize strB (X ++ sumB (crcV X)) = sxs at *
          have HBD2 : Hid (Below t1.heap.size t1 t2) := ⟨hb2.os, hb2.tape, hb2.output, hb2.size, hb2.block⟩
          clear hex how hb2 hxr hxb hxl
          go_wp2_with fail
          refine hK.out _ _ (by exact KE.out _ HBD2.out) (fun hHeld1 => ?_)
          clear hK K
          (try simp only [Act.put]); (try simp only [sA]); (try simp only [sB, sC])
          refine wpAnyH_ready (rs := [11]) (by kernel_rfl) (by simp) ?_
          refine AllReadyH.cons (o := _) rfl (fun K hK => ?_) AllReadyH.nil
          (try simp only [gA, gB, gC])
          go_simp
          refine hK.out _ _ (by exact KE.out _ HBD2.out) (fun hHeld2 => ?_)
          clear hK K
          (try simp only [Act.put]); (try simp only [sA]); (try simp only [sB, sC])
          refine tk 14 ?_
          refine tk 15 ?_
          refine wpAnyH_done (by kernel_rfl) ?_ _
          refine NoPanic.normal ?_
          clear so hHeld hHeld1 hHeld2 KE ENCC HBD0 hcvx
          have HZ0u : Hid (Blk t2 h0 32 zeroA) := HZ0t.out.below HBD2.out
          have HZ1u : Hid (Blk t2 h1 40 #[.int .i64 0, .int .i64 0]) := HZ1t.out.below HBD2.out
          have HZ2u : Hid (Blk t2 h2 40 #[.int .i64 18, .int .i64 0]) := HZ2t.out.below HBD2.out
          have HBu : Hid (Below w.heap.size w t2) := HBt.out.trans (HBD2.out.mono HBt.out.size)
          have HXI : Hid (X ++ sumB (crcV X) = bs ↔ X = bd) := by
           constructor
           ·intro e
            rw [HBSE.out] at e
            have hlx : (sumB (crcV X)).length = (lastL bs).length := by rw [← HCRC.out]; rfl
            exact (List.append_inj' e hlx).1
           ·intro e
            rw [e, HCRC.out]
            exact HBSE.out.symm
          have HGI : Hid (X = bd ↔ endBad bt EP false = false) := by
           rw [HBDM.out]
           exact good_iff (by rw [← HBDM.out]; exact HBDB.out) EP HEX.out
          by_cases hxe : X = bd
          ·have hq : (sxs.toList == sbs.toList) = true := by rw [HEQ.out, decide_eq_true (HXI.out.2 hxe)]
           have HGK : Hid (gOk bs = true) := by show _ = _; rw [HGOK2.out, HGI.out.1 hxe]; rfl
           clear hxe
           have HCu : Hid (CbAt base t2 cb sh v1' v2 v3 cols regs outs) := HCt.out.kp (gs := [sb]) (Below.kp HBD2.out) (by simp; omega) (by intro g hg; simp at hg; left; omega)
           obtain ⟨pa1, pm1, pc1, hv1e⟩ := own_val HCu.out.o1
           obtain ⟨pa2, pm2, pc2, hv2e⟩ := own_val HCu.out.o2
           obtain ⟨pa3, pm3, pc3, hv3e⟩ := own_val HCu.out.o3
           subst hv1e hv2e hv3e
           rw [hq]
           clear hq
           have e0 : t2.cell? ⟨cb, 0, none⟩ = some (.int .i64 sh.ins) := HCu.out.box.cell rfl
           have e1 : t2.cell? ⟨cb, 1, none⟩ = some (.int .i64 sh.outs) := HCu.out.box.cell rfl
           have e2 : t2.cell? ⟨cb, 2, none⟩ = some (.int .i64 sh.regs) := HCu.out.box.cell rfl
           have e3 : t2.cell? ⟨cb, 3, none⟩ = some (.int .i64 sh.rows) := HCu.out.box.cell rfl
           have e4 : t2.cell? ⟨cb, 4, none⟩ = some (.int .i64 sh.cols) := HCu.out.box.cell rfl
           have e5 : t2.cell? ⟨cb, 5, none⟩ = some (.slice pa1 pm1 pc1) := HCu.out.box.cell rfl
           have e6 : t2.cell? ⟨cb, 6, none⟩ = some (.slice pa2 pm2 pc2) := HCu.out.box.cell rfl
           have e7 : t2.cell? ⟨cb, 7, none⟩ = some (.slice pa3 pm3 pc3) := HCu.out.box.cell rfl
           have r0 : t2.cell? ⟨h0, 0, none⟩ = some (.int .i64 0) := HZ0u.out.cell rfl
           have rf0 := HZ0u.out.frozen 0
           have r1 : t2.cell? ⟨h0, 1, none⟩ = some (.int .i64 0) := HZ0u.out.cell rfl
           have rf1 := HZ0u.out.frozen 1
           have r2 : t2.cell? ⟨h0, 2, none⟩ = some (.int .i64 0) := HZ0u.out.cell rfl
           have rf2 := HZ0u.out.frozen 2
           have r3 : t2.cell? ⟨h0, 3, none⟩ = some (.int .i64 0) := HZ0u.out.cell rfl
           have rf3 := HZ0u.out.frozen 3
           have r4 : t2.cell? ⟨h0, 4, none⟩ = some (.int .i64 0) := HZ0u.out.cell rfl
           have rf4 := HZ0u.out.frozen 4
           have r5 : t2.cell? ⟨h0, 5, none⟩ = some (.slice none 0 0) := HZ0u.out.cell rfl
           have rf5 := HZ0u.out.frozen 5
           have r6 : t2.cell? ⟨h0, 6, none⟩ = some (.slice none 0 0) := HZ0u.out.cell rfl
           have rf6 := HZ0u.out.frozen 6
           have r7 : t2.cell? ⟨h0, 7, none⟩ = some (.slice none 0 0) := HZ0u.out.cell rfl
           have rf7 := HZ0u.out.frozen 7
           have s0 : t2.cell? ⟨h1, 0, none⟩ = some (.int .i64 0) := HZ1u.out.cell rfl
           have sf0 := HZ1u.out.frozen 0
           have s1 : t2.cell? ⟨h1, 1, none⟩ = some (.int .i64 0) := HZ1u.out.cell rfl
           have sf1 := HZ1u.out.frozen 1
           go_wp2
           have HR0 : Hid (Blk (World.setCell (World.setCell (World.setCell (World.setCell (World.setCell (World.setCell (World.setCell (World.setCell t2 ⟨h0, 0, none⟩ (.int .i64 sh.ins)) ⟨h0, 1, none⟩ (.int .i64 sh.outs)) ⟨h0, 2, none⟩ (.int .i64 sh.regs)) ⟨h0, 3, none⟩ (.int .i64 sh.rows)) ⟨h0, 4, none⟩ (.int .i64 sh.cols)) ⟨h0, 5, none⟩ (.slice pa1 pm1 pc1)) ⟨h0, 6, none⟩ (.slice pa2 pm2 pc2)) ⟨h0, 7, none⟩ (.slice pa3 pm3 pc3)) h0 32 (cfA sh (.slice pa1 pm1 pc1) (.slice pa2 pm2 pc2) (.slice pa3 pm3 pc3))) := (Blk.set (Blk.set (Blk.set (Blk.set (Blk.set (Blk.set (Blk.set (Blk.set HZ0u.out 0 _) 1 _) 2 _) 3 _) 4 _) 5 _) 6 _) 7 _)
           have HA1 : Hid (Blk (World.setCell (World.setCell (World.setCell (World.setCell (World.setCell (World.setCell (World.setCell (World.setCell t2 ⟨h0, 0, none⟩ (.int .i64 sh.ins)) ⟨h0, 1, none⟩ (.int .i64 sh.outs)) ⟨h0, 2, none⟩ (.int .i64 sh.regs)) ⟨h0, 3, none⟩ (.int .i64 sh.rows)) ⟨h0, 4, none⟩ (.int .i64 sh.cols)) ⟨h0, 5, none⟩ (.slice pa1 pm1 pc1)) ⟨h0, 6, none⟩ (.slice pa2 pm2 pc2)) ⟨h0, 7, none⟩ (.slice pa3 pm3 pc3)) h1 40 #[.int .i64 0, .int .i64 0]) := (But.blk (But.set h0 7 _ _) (But.blk (But.set h0 6 _ _) (But.blk (But.set h0 5 _ _) (But.blk (But.set h0 4 _ _) (But.blk (But.set h0 3 _ _) (But.blk (But.set h0 2 _ _) (But.blk (But.set h0 1 _ _) (But.blk (But.set h0 0 _ _) HZ1u.out (by omega)) (by omega)) (by omega)) (by omega)) (by omega)) (by omega)) (by omega)) (by omega))
           have HK0 : Hid (Kp [h0, h1] t2 (World.setCell (World.setCell (World.setCell (World.setCell (World.setCell (World.setCell (World.setCell (World.setCell t2 ⟨h0, 0, none⟩ (.int .i64 sh.ins)) ⟨h0, 1, none⟩ (.int .i64 sh.outs)) ⟨h0, 2, none⟩ (.int .i64 sh.regs)) ⟨h0, 3, none⟩ (.int .i64 sh.rows)) ⟨h0, 4, none⟩ (.int .i64 sh.cols)) ⟨h0, 5, none⟩ (.slice pa1 pm1 pc1)) ⟨h0, 6, none⟩ (.slice pa2 pm2 pc2)) ⟨h0, 7, none⟩ (.slice pa3 pm3 pc3))) := (((((((((Kp.refl [h0, h1] t2).trans (Kp.set _ _ 0 _ _ (by simp))).trans (Kp.set _ _ 1 _ _ (by simp))).trans (Kp.set _ _ 2 _ _ (by simp))).trans (Kp.set _ _ 3 _ _ (by simp))).trans (Kp.set _ _ 4 _ _ (by simp))).trans (Kp.set _ _ 5 _ _ (by simp))).trans (Kp.set _ _ 6 _ _ (by simp))).trans (Kp.set _ _ 7 _ _ (by simp)))
           generalize (World.setCell (World.setCell (World.setCell (World.setCell (World.setCell (World.setCell (World.setCell (World.setCell t2 ⟨h0, 0, none⟩ (.int .i64 sh.ins)) ⟨h0, 1, none⟩ (.int .i64 sh.outs)) ⟨h0, 2, none⟩ (.int .i64 sh.regs)) ⟨h0, 3, none⟩ (.int .i64 sh.rows)) ⟨h0, 4, none⟩ (.int .i64 sh.cols)) ⟨h0, 5, none⟩ (.slice pa1 pm1 pc1)) ⟨h0, 6, none⟩ (.slice pa2 pm2 pc2)) ⟨h0, 7, none⟩ (.slice pa3 pm3 pc3)) = Y9 at *
           have HR1 : Hid (Blk (World.setCell (World.setCell Y9 ⟨h1, 0, none⟩ (.int .i64 0)) ⟨h1, 1, none⟩ (.int .i64 0)) h1 40 #[.int .i64 0, .int .i64 0]) := (HA1.out.set 0 _).set 1 _
           have HR2 : Hid (Blk (World.setCell (World.setCell Y9 ⟨h1, 0, none⟩ (.int .i64 0)) ⟨h1, 1, none⟩ (.int .i64 0)) h0 32 (cfA sh (.slice pa1 pm1 pc1) (.slice pa2 pm2 pc2) (.slice pa3 pm3 pc3))) := (But.set h1 1 _ _).blk ((But.set h1 0 _ _).blk HR0.out (by omega)) (by omega)
           have HK1 : Hid (Kp [h0, h1] t2 (World.setCell (World.setCell Y9 ⟨h1, 0, none⟩ (.int .i64 0)) ⟨h1, 1, none⟩ (.int .i64 0))) := (HK0.out.trans (Kp.set _ _ _ _ _ (by simp))).trans (Kp.set _ _ _ _ _ (by simp))
           clear HR0 HA1 HK0
           generalize (World.setCell (World.setCell Y9 ⟨h1, 0, none⟩ (.int .i64 0)) ⟨h1, 1, none⟩ (.int .i64 0)) = Z at *
           clear e0 r0 rf0 e1 r1 rf1 e2 r2 rf2 e3 r3 rf3 e4 r4 rf4 e5 r5 rf5 e6 r6 rf6 e7 r7 rf7 s0 sf0 s1 sf1
           have HBZ : Hid (Below w.heap.size w Z) := HBu.out.trans (HK1.out.below (by intro g hg; simp at hg; omega) HBu.out.size)
           have HCZ : Hid (CbAt base Z cb sh (.slice pa1 pm1 pc1) (.slice pa2 pm2 pc2) (.slice pa3 pm3 pc3) cols regs outs) := HCu.out.kp HK1.out (by simp; omega) (by intro g hg; simp at hg; left; omega)
           have r0 : Z.cell? ⟨h0, 0, none⟩ = some (.int .i64 sh.ins) := HR2.out.cell rfl
           have r1 : Z.cell? ⟨h0, 1, none⟩ = some (.int .i64 sh.outs) := HR2.out.cell rfl
           have r2 : Z.cell? ⟨h0, 2, none⟩ = some (.int .i64 sh.regs) := HR2.out.cell rfl
           have r3 : Z.cell? ⟨h0, 3, none⟩ = some (.int .i64 sh.rows) := HR2.out.cell rfl
           have r4 : Z.cell? ⟨h0, 4, none⟩ = some (.int .i64 sh.cols) := HR2.out.cell rfl
           have r5 : Z.cell? ⟨h0, 5, none⟩ = some (.slice pa1 pm1 pc1) := HR2.out.cell rfl
           have r6 : Z.cell? ⟨h0, 6, none⟩ = some (.slice pa2 pm2 pc2) := HR2.out.cell rfl
           have r7 : Z.cell? ⟨h0, 7, none⟩ = some (.slice pa3 pm3 pc3) := HR2.out.cell rfl
           have s0 : Z.cell? ⟨h1, 0, none⟩ = some (.int .i64 0) := HR1.out.cell rfl
           have s1 : Z.cell? ⟨h1, 1, none⟩ = some (.int .i64 0) := HR1.out.cell rfl
           clear HCu HK1 HBu HZ0u HZ1u HZ2u HBD2 HEX HEQ HXI HGI
           refine bodyPost_ret (v := .tuple #[.agg (cfA sh (.slice pa1 pm1 pc1) (.slice pa2 pm2 pc2) (.slice pa3 pm3 pc3)), .agg #[.int .i64 0, .int .i64 0]]) (by unfold cfA; simp [results, Tryd.results8, go_sem, r0, r1, r2, r3, r4, r5, r6, r7, s0, s1]) rfl ?_
           obtain ⟨S9, hS9, hC9⟩ := HCZ.out.cn (HBGH.out _ (by have := HLC2.out.1; omega)) (fun d hd => HBGH.out _ (HLC2.out.2 d hd)) (HBGH.out _ (by rw [HRL2.out]; omega)) (HBGH.out _ HOL.out)
           exact ⟨fun _ => ⟨S9, _, by rw [hS9], HSPB.out, hC9, HBZ.out⟩, fun h => absurd (h.symm.trans HGK.out) (by decide)⟩
          ·have hq : (sxs.toList == sbs.toList) = false := by rw [HEQ.out, decide_eq_false (fun e => hxe (HXI.out.1 e))]
           have HGK : Hid (gOk bs = false) := by
            show _ = _
            rw [HGOK2.out]
            cases hb : endBad bt EP false
            ·exact absurd (HGI.out.2 hb) hxe
            ·rfl
           clear hxe
           rw [hq]
           clear hq
           have HZ0' : Hid (Blk t2 h0 32 zeroA) := HZ0u.out
           have HZ1' : Hid (Blk t2 h1 40 #[.int .i64 0, .int .i64 0]) := HZ1u.out
           have HZ2' : Hid (Blk t2 h2 40 #[.int .i64 18, .int .i64 0]) := HZ2u.out
           have HBX : Hid (Below w.heap.size w t2) := HBu.out
           clear HZ0 HZ1 HZ2 HZ0t HZ1t HZ2t
           have HZ0 := HZ0'
           have HZ1 := HZ1'
           have HZ2 := HZ2'
           clear HZ0' HZ1' HZ2'
           go_wp2_with fail
           obtain ⟨wd, hwd⟩ : ∃ x, x = t2.drew := ⟨_, rfl⟩
           have HD0 : Hid (Blk wd h0 32 zeroA) := by rw [hwd]; exact HZ0.out.drewN 1
           have HD1 : Hid (Blk wd h1 40 #[.int .i64 0, .int .i64 0]) := by rw [hwd]; exact HZ1.out.drewN 1
           have HD2 : Hid (Blk wd h2 40 #[.int .i64 18, .int .i64 0]) := by rw [hwd]; exact HZ2.out.drewN 1
           have HBD : Hid (Below w.heap.size w wd) := by rw [hwd]; exact Below.drew HBX.out
           have HR0 : Hid (Blk (World.setCell (World.setCell (World.setCell (World.setCell (World.setCell (World.setCell (World.setCell (World.setCell wd ⟨h0, 0, none⟩ (.int .i64 0)) ⟨h0, 1, none⟩ (.int .i64 0)) ⟨h0, 2, none⟩ (.int .i64 0)) ⟨h0, 3, none⟩ (.int .i64 0)) ⟨h0, 4, none⟩ (.int .i64 0)) ⟨h0, 5, none⟩ (.slice none 0 0)) ⟨h0, 6, none⟩ (.slice none 0 0)) ⟨h0, 7, none⟩ (.slice none 0 0)) h0 32 zeroA) := (Blk.set (Blk.set (Blk.set (Blk.set (Blk.set (Blk.set (Blk.set (Blk.set HD0.out 0 _) 1 _) 2 _) 3 _) 4 _) 5 _) 6 _) 7 _)
           have HA1 : Hid (Blk (World.setCell (World.setCell (World.setCell (World.setCell (World.setCell (World.setCell (World.setCell (World.setCell wd ⟨h0, 0, none⟩ (.int .i64 0)) ⟨h0, 1, none⟩ (.int .i64 0)) ⟨h0, 2, none⟩ (.int .i64 0)) ⟨h0, 3, none⟩ (.int .i64 0)) ⟨h0, 4, none⟩ (.int .i64 0)) ⟨h0, 5, none⟩ (.slice none 0 0)) ⟨h0, 6, none⟩ (.slice none 0 0)) ⟨h0, 7, none⟩ (.slice none 0 0)) h1 40 #[.int .i64 0, .int .i64 0]) := (But.blk (But.set h0 7 _ _) (But.blk (But.set h0 6 _ _) (But.blk (But.set h0 5 _ _) (But.blk (But.set h0 4 _ _) (But.blk (But.set h0 3 _ _) (But.blk (But.set h0 2 _ _) (But.blk (But.set h0 1 _ _) (But.blk (But.set h0 0 _ _) HD1.out (by omega)) (by omega)) (by omega)) (by omega)) (by omega)) (by omega)) (by omega)) (by omega))
           have HA2 : Hid (Blk (World.setCell (World.setCell (World.setCell (World.setCell (World.setCell (World.setCell (World.setCell (World.setCell wd ⟨h0, 0, none⟩ (.int .i64 0)) ⟨h0, 1, none⟩ (.int .i64 0)) ⟨h0, 2, none⟩ (.int .i64 0)) ⟨h0, 3, none⟩ (.int .i64 0)) ⟨h0, 4, none⟩ (.int .i64 0)) ⟨h0, 5, none⟩ (.slice none 0 0)) ⟨h0, 6, none⟩ (.slice none 0 0)) ⟨h0, 7, none⟩ (.slice none 0 0)) h2 40 #[.int .i64 18, .int .i64 0]) := (But.blk (But.set h0 7 _ _) (But.blk (But.set h0 6 _ _) (But.blk (But.set h0 5 _ _) (But.blk (But.set h0 4 _ _) (But.blk (But.set h0 3 _ _) (But.blk (But.set h0 2 _ _) (But.blk (But.set h0 1 _ _) (But.blk (But.set h0 0 _ _) HD2.out (by omega)) (by omega)) (by omega)) (by omega)) (by omega)) (by omega)) (by omega)) (by omega))
           have HK0 : Hid (Kp [h0, h1] wd (World.setCell (World.setCell (World.setCell (World.setCell (World.setCell (World.setCell (World.setCell (World.setCell wd ⟨h0, 0, none⟩ (.int .i64 0)) ⟨h0, 1, none⟩ (.int .i64 0)) ⟨h0, 2, none⟩ (.int .i64 0)) ⟨h0, 3, none⟩ (.int .i64 0)) ⟨h0, 4, none⟩ (.int .i64 0)) ⟨h0, 5, none⟩ (.slice none 0 0)) ⟨h0, 6, none⟩ (.slice none 0 0)) ⟨h0, 7, none⟩ (.slice none 0 0))) := (((((((((Kp.refl [h0, h1] wd).trans (Kp.set _ _ 0 _ _ (by simp))).trans (Kp.set _ _ 1 _ _ (by simp))).trans (Kp.set _ _ 2 _ _ (by simp))).trans (Kp.set _ _ 3 _ _ (by simp))).trans (Kp.set _ _ 4 _ _ (by simp))).trans (Kp.set _ _ 5 _ _ (by simp))).trans (Kp.set _ _ 6 _ _ (by simp))).trans (Kp.set _ _ 7 _ _ (by simp)))
           have r0 : wd.cell? ⟨h0, 0, none⟩ = some (.int .i64 0) := HD0.out.cell rfl
           have rf0 := HD0.out.frozen 0
           have r1 : wd.cell? ⟨h0, 1, none⟩ = some (.int .i64 0) := HD0.out.cell rfl
           have rf1 := HD0.out.frozen 1
           have r2 : wd.cell? ⟨h0, 2, none⟩ = some (.int .i64 0) := HD0.out.cell rfl
           have rf2 := HD0.out.frozen 2
           have r3 : wd.cell? ⟨h0, 3, none⟩ = some (.int .i64 0) := HD0.out.cell rfl
           have rf3 := HD0.out.frozen 3
           have r4 : wd.cell? ⟨h0, 4, none⟩ = some (.int .i64 0) := HD0.out.cell rfl
           have rf4 := HD0.out.frozen 4
           have r5 : wd.cell? ⟨h0, 5, none⟩ = some (.slice none 0 0) := HD0.out.cell rfl
           have rf5 := HD0.out.frozen 5
           have r6 : wd.cell? ⟨h0, 6, none⟩ = some (.slice none 0 0) := HD0.out.cell rfl
           have rf6 := HD0.out.frozen 6
           have r7 : wd.cell? ⟨h0, 7, none⟩ = some (.slice none 0 0) := HD0.out.cell rfl
           have rf7 := HD0.out.frozen 7
           have KS : Hid (∀ w', Blk w' h2 40 #[.int .i64 18, .int .i64 0] → (fun w' => w'.cell? ⟨h2, 0, none⟩ = some (.int .i64 18) ∧ w'.cell? ⟨h2, 1, none⟩ = some (.int .i64 0)) w') := fun w' hw' => ⟨hw'.cell rfl, hw'.cell rfl⟩
           refine wp_region_noPanic ?_
           refine wp_region_held_drew (S := (fun w' => w'.cell? ⟨h2, 0, none⟩ = some (.int .i64 18) ∧ w'.cell? ⟨h2, 1, none⟩ = some (.int .i64 0))) (by kernel_rfl) (by exact KS.out _ (by rw [← hwd]; exact HD2.out)) (fun hHeld => ?_)
           rw [← hwd] at hHeld ⊢
           clear hwd
           refine tk 0 ?_
           refine tk 1 ?_
           refine wpAnyH_ready (rs := [2]) (by kernel_rfl) (by simp) ?_
           refine AllReadyH.cons (o := _) rfl (fun K hK => ?_) AllReadyH.nil
           (try simp only [gA, gB, gC])
           go_simp
           refine hK.out _ _ (by exact KS.out _ HA2.out) (fun hHeld1 => ?_)
           clear hK K
           clear r0 rf0 r1 rf1 r2 rf2 r3 rf3 r4 rf4 r5 rf5 r6 rf6 r7 rf7 hHeld
           generalize (World.setCell (World.setCell (World.setCell (World.setCell (World.setCell (World.setCell (World.setCell (World.setCell wd ⟨h0, 0, none⟩ (.int .i64 0)) ⟨h0, 1, none⟩ (.int .i64 0)) ⟨h0, 2, none⟩ (.int .i64 0)) ⟨h0, 3, none⟩ (.int .i64 0)) ⟨h0, 4, none⟩ (.int .i64 0)) ⟨h0, 5, none⟩ (.slice none 0 0)) ⟨h0, 6, none⟩ (.slice none 0 0)) ⟨h0, 7, none⟩ (.slice none 0 0)) = Y at *
           clear HD0 HD1 HD2
           have HR1 : Hid (Blk (World.setCell (World.setCell Y ⟨h1, 0, none⟩ (.int .i64 18)) ⟨h1, 1, none⟩ (.int .i64 0)) h1 40 #[.int .i64 18, .int .i64 0]) := (HA1.out.set 0 _).set 1 _
           have HR2 : Hid (Blk (World.setCell (World.setCell Y ⟨h1, 0, none⟩ (.int .i64 18)) ⟨h1, 1, none⟩ (.int .i64 0)) h0 32 zeroA) := (But.set h1 1 _ _).blk ((But.set h1 0 _ _).blk HR0.out (by omega)) (by omega)
           have HR3 : Hid (Blk (World.setCell (World.setCell Y ⟨h1, 0, none⟩ (.int .i64 18)) ⟨h1, 1, none⟩ (.int .i64 0)) h2 40 #[.int .i64 18, .int .i64 0]) := (But.set h1 1 _ _).blk ((But.set h1 0 _ _).blk HA2.out (by omega)) (by omega)
           have HK1 : Hid (Kp [h0, h1] wd (World.setCell (World.setCell Y ⟨h1, 0, none⟩ (.int .i64 18)) ⟨h1, 1, none⟩ (.int .i64 0))) := (HK0.out.trans (Kp.set _ _ _ _ _ (by simp))).trans (Kp.set _ _ _ _ _ (by simp))
           have s0 : Y.cell? ⟨h1, 0, none⟩ = some (.int .i64 0) := HA1.out.cell rfl
           have sf0 := HA1.out.frozen 0
           have s1 : Y.cell? ⟨h1, 1, none⟩ = some (.int .i64 0) := HA1.out.cell rfl
           have sf1 := HA1.out.frozen 1
           (try simp only [Act.put]); (try simp only [sA]); (try simp only [sB, sC])
           refine wpAnyH_ready (rs := [3]) (by kernel_rfl) (by simp) ?_
           refine AllReadyH.cons (o := _) rfl (fun K hK => ?_) AllReadyH.nil
           (try simp only [gA, gB, gC])
           go_simp
           refine hK.out _ _ (by exact KS.out _ HR3.out) (fun hHeld2 => ?_)
           clear hK K
           (try simp only [Act.put]); (try simp only [sA]); (try simp only [sB, sC])
           refine wpAnyH_done (by kernel_rfl) ?_ _
           refine NoPanic.normal ?_
           clear s0 sf0 s1 sf1 hHeld1 hHeld2
           generalize (World.setCell (World.setCell Y ⟨h1, 0, none⟩ (.int .i64 18)) ⟨h1, 1, none⟩ (.int .i64 0)) = Z at *
           have HBZ : Hid (Below w.heap.size w Z) := HBD.out.trans (HK1.out.below (by intro g hg; simp at hg; omega) HBD.out.size)
           clear HBD HR0 HA1 HA2 HR3 HK0 HK1 KS
           have r0 : Z.cell? ⟨h0, 0, none⟩ = some (.int .i64 0) := HR2.out.cell rfl
           have r1 : Z.cell? ⟨h0, 1, none⟩ = some (.int .i64 0) := HR2.out.cell rfl
           have r2 : Z.cell? ⟨h0, 2, none⟩ = some (.int .i64 0) := HR2.out.cell rfl
           have r3 : Z.cell? ⟨h0, 3, none⟩ = some (.int .i64 0) := HR2.out.cell rfl
           have r4 : Z.cell? ⟨h0, 4, none⟩ = some (.int .i64 0) := HR2.out.cell rfl
           have r5 : Z.cell? ⟨h0, 5, none⟩ = some (.slice none 0 0) := HR2.out.cell rfl
           have r6 : Z.cell? ⟨h0, 6, none⟩ = some (.slice none 0 0) := HR2.out.cell rfl
           have r7 : Z.cell? ⟨h0, 7, none⟩ = some (.slice none 0 0) := HR2.out.cell rfl
           have s0 : Z.cell? ⟨h1, 0, none⟩ = some (.int .i64 18) := HR1.out.cell rfl
           have s1 : Z.cell? ⟨h1, 1, none⟩ = some (.int .i64 0) := HR1.out.cell rfl
           go_wp2
           refine bodyPost_ret (v := .tuple #[.agg zeroA, .agg #[.int .i64 18, .int .i64 0]]) (by unfold zeroA cfA; simp [results, Tryd.results8, go_sem, *]) rfl ?_
           exact ⟨fun h => absurd (h.symm.trans HGK.out) (by decide), fun _ => ⟨rfl, HBZ.out⟩⟩
   ·have hge2 : ¬ ((i : Int) < (z4 : Int)) := by omega
    obtain ⟨RP, hRP⟩ : ∃ p, p = posC z3 k0 k1 z4 := ⟨_, rfl⟩
    have hRPl : RP ≤ 4000080 := by rw [hRP]; have := posC_le z3 k0 k1 (by omega) k0l k1l z4; have : z4 * 40000 ≤ 100 * 40000 := Nat.mul_le_mul_right _ (by omega); omega
    have HPL0 : Hid (P ≤ 32 + (RP + 0 * (1 + k1))) := by
     show P ≤ _
     have h1 := HPL.out
     have h2 := posC_mono z3 k0 k1 hi
     rw [Nat.zero_mul, Nat.add_zero, hRP]
     omega
    have HPG0 : Hid (P ≤ 8 * n → P = 32 + (RP + 0 * (1 + k1)) ∧ [] = (List.range 0).map (regF nm RP k1) ∧ cols.map ClD.cs = (List.range z4).map (colF nm z3 k0 k1)) := by
     intro hle
     have hiz : i = z4 := by omega
     obtain ⟨e1, e2⟩ := HPG.out hle
     rw [hiz] at e1 e2
     refine ⟨by rw [Nat.zero_mul, Nat.add_zero, hRP]; exact e1, rfl, e2⟩
    have HLC2 : Hid (cols.length ≤ 100 ∧ ∀ d, d ∈ cols → d.cs.length ≤ 500) := ⟨by rw [HLC.out.1]; omega, HLC.out.2⟩
    have HRPE := hidden hRP
    obtain ⟨s1, hs1⟩ : ∃ s : Nat, s = 2 + z3 := ⟨_, rfl⟩
    have SRC1 : Hid (∀ w', Calls Tryd.prog 14 #[.agg #[.int .i64 (z0 : Int), .int .i64 (z1 : Int), .int .i64 (z2 : Int), .int .i64 (z3 : Int), .int .i64 (z4 : Int)], .int .i64 (-1)] w' fun e w'' => e = .returned (.int .i64 (s1 : Int)) ∧ Below w'.heap.size w' w'') := fun w' => by
     have h := sources_doc w' sh (-1) HFIT.out
     have e : sh.src (-1) = (s1 : Int) := by
      rw [HSH.out, hs1]
      unfold ShD.src
      rw [if_neg (by omega)]
      simp
     rw [e, HSH.out] at h
     exact h
    have BIT1 : Hid (∀ w', Calls Tryd.prog 13 #[.int .i64 (s1 : Int)] w' fun e w'' => e = .returned (.int .i64 (k1 : Int)) ∧ w'' = w') := fun w' => by
     have h := bits_doc w' s1 (by omega)
     have e : wid s1 = k1 := by rw [hs1]; exact HW1.out
     rw [e] at h
     exact h
    clear HPL HPG HLC hRP hs1 hi hgo
    go_wp2_with fail
    clear so y4
    go_loopw [15] (fun j' w' => ∃ (j P : Nat) (v2 : Value) (regs : List RgD), j ≤ z2 ∧ j' = .int .i64 j ∧ Hid (CbAt base w' cb sh v1' v2 (.slice none 0 0) cols regs []) ∧ Hid (regs.length = j) ∧ Hid (Blk w' sb 48 (stQ (some ⟨ab, ao, none⟩) bd c P)) ∧ Hid (P ≤ 32 + (RP + j * (1 + k1))) ∧ Hid (P ≤ 8 * n → P = 32 + (RP + j * (1 + k1)) ∧ regs = (List.range j).map (regF nm RP k1) ∧ cols.map ClD.cs = (List.range z4).map (colF nm z3 k0 k1)) ∧ Hid (Kp [sb, cb] W1 w')) (fun j' _ => z2 - (intOf j').toNat)
    case atStart => exact ⟨0, P, _, [], Nat.zero_le _, rfl, HCB.out, rfl, HSB.out, HPL0.out, HPG0.out, HKW.out⟩
    case round =>
     clear HCB HSB HPL0 HPG0 HKW
     obtain ⟨j, P, v2, regs, hj, rfl, HCB, HLR, HSB, HPL, HPG, HKW⟩ := hrel
     have y2 : wr.cell? ⟨sx, 2, none⟩ = some (.int .i64 (z2 : Int)) := (KSX.out _ HKW.out).cell rfl
     by_cases hlt : j < z2
     ·have hltI : (j : Int) < (z2 : Int) := by omega
      have ej : IntKind.i64.wrap ((j : Int) + 1) = (j : Int) + 1 := wrapI _ (by omega) (by omega)
      have TK := hidden (TAKG.out wr P 1 HSB.out HKW.out (by omega))
      obtain ⟨on, HON⟩ : ∃ b, Hid (b = takeV bd P 1) := ⟨_, rfl⟩
      rw [← HON.out] at TK
      obtain ⟨xi, hxi⟩ : ∃ b, (((on : Nat) : Int) == 1) = b := ⟨_, rfl⟩
      have HXI := hidden hxi
      obtain ⟨xs, HXS⟩ : ∃ b, Hid (b = takeV bd (P + 1) k1) := ⟨_, rfl⟩
      have HLR2 : Hid ((regs ++ [(⟨(xs : Int), xi⟩ : RgD)]).length = j + 1) := by show _ = _; rw [List.length_append, HLR.out]; rfl
      have HPL2 : Hid (P + 1 + k1 ≤ 32 + (RP + (j + 1) * (1 + k1))) := by
       show _ ≤ _
       have := HPL.out
       rw [Nat.add_mul, Nat.one_mul]
       omega
      have HPG2 : Hid (P + 1 + k1 ≤ 8 * n → P + 1 + k1 = 32 + (RP + (j + 1) * (1 + k1)) ∧ regs ++ [(⟨(xs : Int), xi⟩ : RgD)] = (List.range (j + 1)).map (regF nm RP k1) ∧ cols.map ClD.cs = (List.range z4).map (colF nm z3 k0 k1)) := by
       intro hle
       obtain ⟨e1, e2, e3⟩ := HPG.out (by omega)
       refine ⟨by rw [e1, Nat.add_mul, Nat.one_mul]; omega, ?_, e3⟩
       rw [List.range_succ, List.map_append, ← e2]
       congr 1
       show [(⟨(xs : Int), xi⟩ : RgD)] = [regF nm RP k1 j]
       unfold regF
       have h1 : on = nm (RP + j * (1 + k1)) 1 := by
        rw [HON.out]
        unfold takeV
        rw [HBDL.out, if_pos (by omega), e1, HNN.out]
       have h2 : xs = nm (RP + j * (1 + k1) + 1) k1 := by
        rw [HXS.out]
        unfold takeV
        rw [HBDL.out, if_pos (by omega), e1, Nat.add_assoc 32, HNN.out]
       rw [h2, ← HXI.out, h1]
       congr 2
       rw [Bool.eq_iff_iff]
       simp only [beq_iff_eq, decide_eq_true_eq]
       omega
      clear HPL HPG
      go_wp2_with fail
      clear y2
      go_at_call 21
      refine TK.out.mono ?_
      rintro e wr0 ⟨rfl, hb, hk1⟩
      have HCB' : Hid (CbAt base wr0 cb sh v1' v2 (.slice none 0 0) cols regs []) := HCB.out.but hb (by omega) (by omega)
      have HKW' : Hid (Kp [sb, cb] W1 wr0) := HKW.out.trans (hb.kp (by simp))
      have HSB' := hidden hk1
      clear hb hk1 TK HCB HKW HSB
      have HCB := HCB'
      have HKW := HKW'
      have HSB := HSB'
      clear HCB' HKW' HSB'
      have TK2 : Hid (∀ v, Below wr0.heap.size wr0 v → Calls Tryd.prog 21 #[.pointer (some ⟨sb, 0, none⟩), .int .i64 (k1 : Int)] v fun e w' => e = .returned (.int .i64 (xs : Int)) ∧ But sb v w' ∧ Blk w' sb 48 (stQ (some ⟨ab, ao, none⟩) bd c (P + 1 + k1))) := fun v hv => by rw [HXS.out]; exact TAKG.out v (P + 1) k1 (HSB.out.below hv) (HKW.out.trans (Below.kp hv)) k1l
      have KS : Hid (∀ w', Kp [sb, cb] W1 w' → (fun w' => w'.cell? ⟨sx, 0, none⟩ = some (.int .i64 (z0 : Int)) ∧ w'.cell? ⟨sx, 1, none⟩ = some (.int .i64 (z1 : Int)) ∧ w'.cell? ⟨sx, 2, none⟩ = some (.int .i64 (z2 : Int)) ∧ w'.cell? ⟨sx, 3, none⟩ = some (.int .i64 (z3 : Int)) ∧ w'.cell? ⟨sx, 4, none⟩ = some (.int .i64 (z4 : Int))) w') := fun w' hw' => ⟨(KSX.out _ hw').cell rfl, (KSX.out _ hw').cell rfl, (KSX.out _ hw').cell rfl, (KSX.out _ hw').cell rfl, (KSX.out _ hw').cell rfl⟩
      have HKD : Hid (Kp [sb, cb] W1 wr0.drew) := HKW.out.drew
      have q1 : wr0.cell? ⟨cb, 6, none⟩ = some v2 := HCB.out.box.cell rfl
      have hm1 : j + 1 ≤ maxLen := by simp only [maxLen]; omega
      have hm2 : (j + 1) * 16 ≤ 140737488355328 := by omega
      go_wp2_with fail
      refine wp_region_noPanic ?_
      refine wp_region_held_drew (S := (fun w' => w'.cell? ⟨sx, 0, none⟩ = some (.int .i64 (z0 : Int)) ∧ w'.cell? ⟨sx, 1, none⟩ = some (.int .i64 (z1 : Int)) ∧ w'.cell? ⟨sx, 2, none⟩ = some (.int .i64 (z2 : Int)) ∧ w'.cell? ⟨sx, 3, none⟩ = some (.int .i64 (z3 : Int)) ∧ w'.cell? ⟨sx, 4, none⟩ = some (.int .i64 (z4 : Int)))) (by kernel_rfl) (by first | exact KS.out _ HK2.out | exact KS.out _ HK1.out | exact KS.out _ HKt2.out | exact KS.out _ HKt1.out | exact KS.out _ HKD.out) (fun hHeld => ?_)
      refine tk 0 ?_
      refine tk 2 ?_
      refine tk 3 ?_
      refine tk 4 ?_
      refine tk 5 ?_
      refine wpAnyH_ready (rs := [1, 6]) (by kernel_rfl) (by simp) ?_
      refine AllReadyH.cons (o := _) rfl (fun K hK => ?_) ?_
      ·(try simp only [gA, gB, gC])
       go_simp
       refine hK.out _ _ (by first | exact KS.out _ HK2.out | exact KS.out _ HK1.out | exact KS.out _ HKt2.out | exact KS.out _ HKt1.out | exact KS.out _ HKD.out) (fun hHeld4 => ?_)
       clear hK K
       (try simp only [Act.put]); (try simp only [sA]); (try simp only [sB, sC])
       refine wpAnyH_ready (rs := [6]) (by kernel_rfl) (by simp) ?_
       refine AllReadyH.cons (o := _) rfl (fun K hK => ?_) AllReadyH.nil
       (try simp only [gA, gB, gC])
       go_simp
       go_at_call 14
       refine (SRC1.out _).mono ?_
       rintro e t1 ⟨rfl, hb1⟩
       have HB1 : Hid (Below wr0.heap.size wr0 t1) := ⟨hb1.os, hb1.tape, hb1.output, hb1.size, hb1.block⟩
       have HKt1 : Hid (Kp [sb, cb] W1 t1) := HKW.out.trans (Below.kp HB1.out)
       have q1' : t1.cell? ⟨cb, 6, none⟩ = some v2 := (HCB.out.box.below HB1.out).cell rfl
       clear hb1
       go_wp2_with fail
       refine hK.out _ _ (by exact KS.out _ HKt1.out) (fun hHeld6 => ?_)
       clear hK K
       (try simp only [Act.put]); (try simp only [sA]); (try simp only [sB, sC])
       refine wpAnyH_ready (rs := [7]) (by kernel_rfl) (by simp) ?_
       refine AllReadyH.cons (o := _) rfl (fun K hK => ?_) AllReadyH.nil
       (try simp only [gA, gB, gC])
       go_simp
       go_at_call 13
       refine (BIT1.out _).mono ?_
       rintro e t2 ⟨rfl, ht2⟩
       have HB2 : Hid (Below wr0.heap.size wr0 t2) := by rw [ht2]; exact HB1.out
       have HKt2 : Hid (Kp [sb, cb] W1 t2) := by rw [ht2]; exact HKt1.out
       have q2' : t2.cell? ⟨cb, 6, none⟩ = some v2 := by rw [ht2]; exact q1'
       clear ht2
       go_wp2_with fail
       refine hK.out _ _ (by exact KS.out _ HKt2.out) (fun hHeld7 => ?_)
       clear hK K
       (try simp only [Act.put]); (try simp only [sA]); (try simp only [sB, sC])
       refine wpAnyH_ready (rs := [8]) (by kernel_rfl) (by simp) ?_
       refine AllReadyH.cons (o := _) rfl (fun K hK => ?_) AllReadyH.nil
       (try simp only [gA, gB, gC])
       go_simp
       go_at_call 21
       refine (TK2.out t2 HB2.out).mono ?_
       rintro e v ⟨rfl, h1', h2'⟩
       have HK1 : Hid (Kp [sb, cb] W1 v) := HKt2.out.trans (h1'.kp (by simp))
       have HC1 : Hid (CbAt base v cb sh v1' v2 (.slice none 0 0) cols regs []) := (HCB.out.kp (gs := [sb]) (Below.kp HB2.out) (by simp; omega) (by intro g hg; simp at hg; left; omega)).but h1' (by omega) (by omega)
       have HL1 := hidden h2'
       have HO1 : Hid (v.ownsRow base 57 2 v2 j (regs.flatMap RgD.cells)) := by have := HC1.out.o2; rwa [HLR.out] at this
       have HO2 := hidden (HO1.out.alloc (.cells #[.int .i64 (xs : Int), .bool xi] 57))
       have HZ2w : Hid (base ≤ (v.alloc (.cells #[.int .i64 (xs : Int), .bool xi] 57)).heap.size) := by have := HK1.out.size; show base ≤ _; simp; omega
       have q2v : v.cell? ⟨cb, 6, none⟩ = some v2 := HC1.out.box.cell rfl
       have HK2 : Hid (Kp [sb, cb] W1 (v.alloc (.cells #[.int .i64 (xs : Int), .bool xi] 57))) := HK1.out.trans (Below.kp ((Below.refl _ _).alloc (Nat.le_refl _) _))
       have q3v : (v.alloc (.cells #[.int .i64 (xs : Int), .bool xi] 57)).cell? ⟨cb, 6, none⟩ = some v2 := (HC1.out.box.below ((Below.refl _ _).alloc (Nat.le_refl _) _)).cell rfl
       clear h1' h2' 
       go_wp2_with fail
       refine hK.out _ _ (by exact KS.out _ HK1.out) (fun hHeld8 => ?_)
       clear hK K
       (try simp only [Act.put]); (try simp only [sA]); (try simp only [sB, sC])
       refine tk 9 ?_
       refine wpAnyH_ready (rs := [10]) (by kernel_rfl) (by simp) ?_
       refine AllReadyH.cons (o := _) rfl (fun K hK => ?_) AllReadyH.nil
       (try simp only [gA, gB, gC])
       go_simp
       refine hK.out _ _ (by exact KS.out _ HK2.out) (fun hHeld10 => ?_)
       clear hK K
       (try simp only [Act.put]); (try simp only [sA]); (try simp only [sB, sC])
       refine wpAnyH_ready (rs := [11]) (by kernel_rfl) (by simp) ?_
       refine AllReadyH.cons (o := _) rfl (fun K hK => ?_) AllReadyH.nil
       refine step_append_lies _ rfl (.tmp 135) (.tmp 144) 29 rfl base 57 i2 _ 2 16 Tryd.underlying29 HI2.out HZ2i.out HS2.out HY2.out rfl (by decide) v2 j _ rfl HO2.out ⟨v.heap.size, 0, none⟩ 1 1 [.int .i64 (xs : Int), .bool xi] rfl rfl (World.news_of_block (heap_new _ _)) (by simp [Value.oneCell']) (by decide) hm1 hm2 HZ2w.out _ rfl ?_
       intro g5 cap w5 hown hgrow hat hlt5
       have HG5 : Hid (v.grownBy w5 v2.ownBlock) := grown_trans (World.grownBy_alloc _ _ _) hgrow
       have HOW := hidden hown
       have HK5 : Hid (Kp [sb, cb] W1 w5) := HK1.out.grow HG5.out (fun k hk => by have := (HO1.out.lt k hk).1; omega)
       have hB5 : Blk w5 cb 32 _ := (HG5.out.block cb HC1.out.box.lt (fun e => by have := (HO1.out.lt cb e.symm).1; have := HC1.out.lt; omega)).trans HC1.out.box
       have c5 : w5.cell? ⟨cb, 6, none⟩ = some v2 := hB5.cell rfl
       have f5 := hB5.frozen 6
       clear hown hgrow hat hlt5 hB5
       have HK6 : Hid (Kp [sb, cb] W1 (w5.setCell ⟨cb, 6, none⟩ (.slice (some ⟨g5, 0, none⟩) (j + 1) cap))) := HK5.out.trans (Kp.set _ _ _ _ _ (by simp))
       refine hK.out _ _ (by exact KS.out _ HK5.out) (fun hHeld11 => ?_)
       clear hK K
       (try simp only [Act.put]); (try simp only [sA]); (try simp only [sB, sC])
       refine tk 12 ?_
       refine wpAnyH_ready (rs := [13]) (by kernel_rfl) (by simp) ?_
       refine AllReadyH.cons (o := _) rfl (fun K hK => ?_) AllReadyH.nil
       (try simp only [gA, gB, gC])
       go_simp
       refine hK.out _ _ (by exact KS.out _ HK6.out) (fun hHeld14 => ?_)
       clear hK K
       (try simp only [Act.put]); (try simp only [sA]); (try simp only [sB, sC])
       refine wpAnyH_done (by kernel_rfl) ?_ _
       refine NoPanic.normal ?_
       have HC6 : Hid (CbAt base (w5.setCell ⟨cb, 6, none⟩ (.slice (some ⟨g5, 0, none⟩) (j + 1) cap)) cb sh v1' (.slice (some ⟨g5, 0, none⟩) (j + 1) cap) (.slice none 0 0) cols (regs ++ [⟨(xs : Int), xi⟩]) []) := HC1.out.push2 (d := ⟨(xs : Int), xi⟩) (u := .slice (some ⟨g5, 0, none⟩) (j + 1) cap) (by rw [HLR.out]; exact HOW.out) HG5.out
       have HLB : Hid (Blk (w5.setCell ⟨cb, 6, none⟩ (.slice (some ⟨g5, 0, none⟩) (j + 1) cap)) sb 48 (stQ (some ⟨ab, ao, none⟩) bd c (P + 1 + k1))) := (But.set cb 6 w5 _).blk ((HG5.out.block sb HL1.out.lt (fun e => by have := (HO1.out.lt sb e.symm).1; omega)).trans HL1.out) (by omega)
       generalize w5.setCell ⟨cb, 6, none⟩ (.slice (some ⟨g5, 0, none⟩) (j + 1) cap) = X6 at *
       clear HO1 HO2 HG5 HOW c5 f5 q2v q3v HC1 HL1 HK5 HK1 HK2 HKt1 HKt2 HB1 HB2
       go_wp2
       go_roundw
       case measure => simp [intOf]; omega
       case rel => exact ⟨j + 1, P + 1 + k1, _, _, by omega, by simp, HC6.out, HLR2.out, HLB.out, HPL2.out, HPG2.out, HK6.out⟩
      refine AllReadyH.cons (o := _) rfl (fun K hK => ?_) AllReadyH.nil
      (try simp only [gA, gB, gC])
      go_simp
      go_at_call 14
      refine (SRC1.out _).mono ?_
      rintro e t1 ⟨rfl, hb1⟩
      have HB1 : Hid (Below wr0.heap.size wr0 t1) := ⟨hb1.os, hb1.tape, hb1.output, hb1.size, hb1.block⟩
      have HKt1 : Hid (Kp [sb, cb] W1 t1) := HKW.out.trans (Below.kp HB1.out)
      have q1' : t1.cell? ⟨cb, 6, none⟩ = some v2 := (HCB.out.box.below HB1.out).cell rfl
      clear hb1
      go_wp2_with fail
      refine hK.out _ _ (by exact KS.out _ HKt1.out) (fun hHeld6 => ?_)
      clear hK K
      (try simp only [Act.put]); (try simp only [sA]); (try simp only [sB, sC])
      refine wpAnyH_ready (rs := [1, 7]) (by kernel_rfl) (by simp) ?_
      refine AllReadyH.cons (o := _) rfl (fun K hK => ?_) ?_
      ·(try simp only [gA, gB, gC])
       go_simp
       refine hK.out _ _ (by first | exact KS.out _ HK2.out | exact KS.out _ HK1.out | exact KS.out _ HKt2.out | exact KS.out _ HKt1.out | exact KS.out _ HKD.out) (fun hHeld4 => ?_)
       clear hK K
       (try simp only [Act.put]); (try simp only [sA]); (try simp only [sB, sC])
       refine wpAnyH_ready (rs := [7]) (by kernel_rfl) (by simp) ?_
       refine AllReadyH.cons (o := _) rfl (fun K hK => ?_) AllReadyH.nil
       (try simp only [gA, gB, gC])
       go_simp
       go_at_call 13
       refine (BIT1.out _).mono ?_
       rintro e t2 ⟨rfl, ht2⟩
       have HB2 : Hid (Below wr0.heap.size wr0 t2) := by rw [ht2]; exact HB1.out
       have HKt2 : Hid (Kp [sb, cb] W1 t2) := by rw [ht2]; exact HKt1.out
       have q2' : t2.cell? ⟨cb, 6, none⟩ = some v2 := by rw [ht2]; exact q1'
       clear ht2
       go_wp2_with fail
       refine hK.out _ _ (by exact KS.out _ HKt2.out) (fun hHeld7 => ?_)
       clear hK K
       (try simp only [Act.put]); (try simp only [sA]); (try simp only [sB, sC])
       refine wpAnyH_ready (rs := [8]) (by kernel_rfl) (by simp) ?_
       refine AllReadyH.cons (o := _) rfl (fun K hK => ?_) AllReadyH.nil
       (try simp only [gA, gB, gC])
       go_simp
       go_at_call 21
       refine (TK2.out t2 HB2.out).mono ?_
       rintro e v ⟨rfl, h1', h2'⟩
       have HK1 : Hid (Kp [sb, cb] W1 v) := HKt2.out.trans (h1'.kp (by simp))
       have HC1 : Hid (CbAt base v cb sh v1' v2 (.slice none 0 0) cols regs []) := (HCB.out.kp (gs := [sb]) (Below.kp HB2.out) (by simp; omega) (by intro g hg; simp at hg; left; omega)).but h1' (by omega) (by omega)
       have HL1 := hidden h2'
       have HO1 : Hid (v.ownsRow base 57 2 v2 j (regs.flatMap RgD.cells)) := by have := HC1.out.o2; rwa [HLR.out] at this
       have HO2 := hidden (HO1.out.alloc (.cells #[.int .i64 (xs : Int), .bool xi] 57))
       have HZ2w : Hid (base ≤ (v.alloc (.cells #[.int .i64 (xs : Int), .bool xi] 57)).heap.size) := by have := HK1.out.size; show base ≤ _; simp; omega
       have q2v : v.cell? ⟨cb, 6, none⟩ = some v2 := HC1.out.box.cell rfl
       have HK2 : Hid (Kp [sb, cb] W1 (v.alloc (.cells #[.int .i64 (xs : Int), .bool xi] 57))) := HK1.out.trans (Below.kp ((Below.refl _ _).alloc (Nat.le_refl _) _))
       have q3v : (v.alloc (.cells #[.int .i64 (xs : Int), .bool xi] 57)).cell? ⟨cb, 6, none⟩ = some v2 := (HC1.out.box.below ((Below.refl _ _).alloc (Nat.le_refl _) _)).cell rfl
       clear h1' h2' 
       go_wp2_with fail
       refine hK.out _ _ (by exact KS.out _ HK1.out) (fun hHeld8 => ?_)
       clear hK K
       (try simp only [Act.put]); (try simp only [sA]); (try simp only [sB, sC])
       refine tk 9 ?_
       refine wpAnyH_ready (rs := [10]) (by kernel_rfl) (by simp) ?_
       refine AllReadyH.cons (o := _) rfl (fun K hK => ?_) AllReadyH.nil
       (try simp only [gA, gB, gC])
       go_simp
       refine hK.out _ _ (by exact KS.out _ HK2.out) (fun hHeld10 => ?_)
       clear hK K
       (try simp only [Act.put]); (try simp only [sA]); (try simp only [sB, sC])
       refine wpAnyH_ready (rs := [11]) (by kernel_rfl) (by simp) ?_
       refine AllReadyH.cons (o := _) rfl (fun K hK => ?_) AllReadyH.nil
       refine step_append_lies _ rfl (.tmp 135) (.tmp 144) 29 rfl base 57 i2 _ 2 16 Tryd.underlying29 HI2.out HZ2i.out HS2.out HY2.out rfl (by decide) v2 j _ rfl HO2.out ⟨v.heap.size, 0, none⟩ 1 1 [.int .i64 (xs : Int), .bool xi] rfl rfl (World.news_of_block (heap_new _ _)) (by simp [Value.oneCell']) (by decide) hm1 hm2 HZ2w.out _ rfl ?_
       intro g5 cap w5 hown hgrow hat hlt5
       have HG5 : Hid (v.grownBy w5 v2.ownBlock) := grown_trans (World.grownBy_alloc _ _ _) hgrow
       have HOW := hidden hown
       have HK5 : Hid (Kp [sb, cb] W1 w5) := HK1.out.grow HG5.out (fun k hk => by have := (HO1.out.lt k hk).1; omega)
       have hB5 : Blk w5 cb 32 _ := (HG5.out.block cb HC1.out.box.lt (fun e => by have := (HO1.out.lt cb e.symm).1; have := HC1.out.lt; omega)).trans HC1.out.box
       have c5 : w5.cell? ⟨cb, 6, none⟩ = some v2 := hB5.cell rfl
       have f5 := hB5.frozen 6
       clear hown hgrow hat hlt5 hB5
       have HK6 : Hid (Kp [sb, cb] W1 (w5.setCell ⟨cb, 6, none⟩ (.slice (some ⟨g5, 0, none⟩) (j + 1) cap))) := HK5.out.trans (Kp.set _ _ _ _ _ (by simp))
       refine hK.out _ _ (by exact KS.out _ HK5.out) (fun hHeld11 => ?_)
       clear hK K
       (try simp only [Act.put]); (try simp only [sA]); (try simp only [sB, sC])
       refine tk 12 ?_
       refine wpAnyH_ready (rs := [13]) (by kernel_rfl) (by simp) ?_
       refine AllReadyH.cons (o := _) rfl (fun K hK => ?_) AllReadyH.nil
       (try simp only [gA, gB, gC])
       go_simp
       refine hK.out _ _ (by exact KS.out _ HK6.out) (fun hHeld14 => ?_)
       clear hK K
       (try simp only [Act.put]); (try simp only [sA]); (try simp only [sB, sC])
       refine wpAnyH_done (by kernel_rfl) ?_ _
       refine NoPanic.normal ?_
       have HC6 : Hid (CbAt base (w5.setCell ⟨cb, 6, none⟩ (.slice (some ⟨g5, 0, none⟩) (j + 1) cap)) cb sh v1' (.slice (some ⟨g5, 0, none⟩) (j + 1) cap) (.slice none 0 0) cols (regs ++ [⟨(xs : Int), xi⟩]) []) := HC1.out.push2 (d := ⟨(xs : Int), xi⟩) (u := .slice (some ⟨g5, 0, none⟩) (j + 1) cap) (by rw [HLR.out]; exact HOW.out) HG5.out
       have HLB : Hid (Blk (w5.setCell ⟨cb, 6, none⟩ (.slice (some ⟨g5, 0, none⟩) (j + 1) cap)) sb 48 (stQ (some ⟨ab, ao, none⟩) bd c (P + 1 + k1))) := (But.set cb 6 w5 _).blk ((HG5.out.block sb HL1.out.lt (fun e => by have := (HO1.out.lt sb e.symm).1; omega)).trans HL1.out) (by omega)
       generalize w5.setCell ⟨cb, 6, none⟩ (.slice (some ⟨g5, 0, none⟩) (j + 1) cap) = X6 at *
       clear HO1 HO2 HG5 HOW c5 f5 q2v q3v HC1 HL1 HK5 HK1 HK2 HKt1 HKt2 HB1 HB2
       go_wp2
       go_roundw
       case measure => simp [intOf]; omega
       case rel => exact ⟨j + 1, P + 1 + k1, _, _, by omega, by simp, HC6.out, HLR2.out, HLB.out, HPL2.out, HPG2.out, HK6.out⟩
      refine AllReadyH.cons (o := _) rfl (fun K hK => ?_) AllReadyH.nil
      (try simp only [gA, gB, gC])
      go_simp
      go_at_call 13
      refine (BIT1.out _).mono ?_
      rintro e t2 ⟨rfl, ht2⟩
      have HB2 : Hid (Below wr0.heap.size wr0 t2) := by rw [ht2]; exact HB1.out
      have HKt2 : Hid (Kp [sb, cb] W1 t2) := by rw [ht2]; exact HKt1.out
      have q2' : t2.cell? ⟨cb, 6, none⟩ = some v2 := by rw [ht2]; exact q1'
      clear ht2
      go_wp2_with fail
      refine hK.out _ _ (by exact KS.out _ HKt2.out) (fun hHeld7 => ?_)
      clear hK K
      (try simp only [Act.put]); (try simp only [sA]); (try simp only [sB, sC])
      refine wpAnyH_ready (rs := [1, 8]) (by kernel_rfl) (by simp) ?_
      refine AllReadyH.cons (o := _) rfl (fun K hK => ?_) ?_
      ·(try simp only [gA, gB, gC])
       go_simp
       refine hK.out _ _ (by first | exact KS.out _ HK2.out | exact KS.out _ HK1.out | exact KS.out _ HKt2.out | exact KS.out _ HKt1.out | exact KS.out _ HKD.out) (fun hHeld4 => ?_)
       clear hK K
       (try simp only [Act.put]); (try simp only [sA]); (try simp only [sB, sC])
       refine wpAnyH_ready (rs := [8]) (by kernel_rfl) (by simp) ?_
       refine AllReadyH.cons (o := _) rfl (fun K hK => ?_) AllReadyH.nil
       (try simp only [gA, gB, gC])
       go_simp
       go_at_call 21
       refine (TK2.out t2 HB2.out).mono ?_
       rintro e v ⟨rfl, h1', h2'⟩
       have HK1 : Hid (Kp [sb, cb] W1 v) := HKt2.out.trans (h1'.kp (by simp))
       have HC1 : Hid (CbAt base v cb sh v1' v2 (.slice none 0 0) cols regs []) := (HCB.out.kp (gs := [sb]) (Below.kp HB2.out) (by simp; omega) (by intro g hg; simp at hg; left; omega)).but h1' (by omega) (by omega)
       have HL1 := hidden h2'
       have HO1 : Hid (v.ownsRow base 57 2 v2 j (regs.flatMap RgD.cells)) := by have := HC1.out.o2; rwa [HLR.out] at this
       have HO2 := hidden (HO1.out.alloc (.cells #[.int .i64 (xs : Int), .bool xi] 57))
       have HZ2w : Hid (base ≤ (v.alloc (.cells #[.int .i64 (xs : Int), .bool xi] 57)).heap.size) := by have := HK1.out.size; show base ≤ _; simp; omega
       have q2v : v.cell? ⟨cb, 6, none⟩ = some v2 := HC1.out.box.cell rfl
       have HK2 : Hid (Kp [sb, cb] W1 (v.alloc (.cells #[.int .i64 (xs : Int), .bool xi] 57))) := HK1.out.trans (Below.kp ((Below.refl _ _).alloc (Nat.le_refl _) _))
       have q3v : (v.alloc (.cells #[.int .i64 (xs : Int), .bool xi] 57)).cell? ⟨cb, 6, none⟩ = some v2 := (HC1.out.box.below ((Below.refl _ _).alloc (Nat.le_refl _) _)).cell rfl
       clear h1' h2' 
       go_wp2_with fail
       refine hK.out _ _ (by exact KS.out _ HK1.out) (fun hHeld8 => ?_)
       clear hK K
       (try simp only [Act.put]); (try simp only [sA]); (try simp only [sB, sC])
       refine tk 9 ?_
       refine wpAnyH_ready (rs := [10]) (by kernel_rfl) (by simp) ?_
       refine AllReadyH.cons (o := _) rfl (fun K hK => ?_) AllReadyH.nil
       (try simp only [gA, gB, gC])
       go_simp
       refine hK.out _ _ (by exact KS.out _ HK2.out) (fun hHeld10 => ?_)
       clear hK K
       (try simp only [Act.put]); (try simp only [sA]); (try simp only [sB, sC])
       refine wpAnyH_ready (rs := [11]) (by kernel_rfl) (by simp) ?_
       refine AllReadyH.cons (o := _) rfl (fun K hK => ?_) AllReadyH.nil
       refine step_append_lies _ rfl (.tmp 135) (.tmp 144) 29 rfl base 57 i2 _ 2 16 Tryd.underlying29 HI2.out HZ2i.out HS2.out HY2.out rfl (by decide) v2 j _ rfl HO2.out ⟨v.heap.size, 0, none⟩ 1 1 [.int .i64 (xs : Int), .bool xi] rfl rfl (World.news_of_block (heap_new _ _)) (by simp [Value.oneCell']) (by decide) hm1 hm2 HZ2w.out _ rfl ?_
       intro g5 cap w5 hown hgrow hat hlt5
       have HG5 : Hid (v.grownBy w5 v2.ownBlock) := grown_trans (World.grownBy_alloc _ _ _) hgrow
       have HOW := hidden hown
       have HK5 : Hid (Kp [sb, cb] W1 w5) := HK1.out.grow HG5.out (fun k hk => by have := (HO1.out.lt k hk).1; omega)
       have hB5 : Blk w5 cb 32 _ := (HG5.out.block cb HC1.out.box.lt (fun e => by have := (HO1.out.lt cb e.symm).1; have := HC1.out.lt; omega)).trans HC1.out.box
       have c5 : w5.cell? ⟨cb, 6, none⟩ = some v2 := hB5.cell rfl
       have f5 := hB5.frozen 6
       clear hown hgrow hat hlt5 hB5
       have HK6 : Hid (Kp [sb, cb] W1 (w5.setCell ⟨cb, 6, none⟩ (.slice (some ⟨g5, 0, none⟩) (j + 1) cap))) := HK5.out.trans (Kp.set _ _ _ _ _ (by simp))
       refine hK.out _ _ (by exact KS.out _ HK5.out) (fun hHeld11 => ?_)
       clear hK K
       (try simp only [Act.put]); (try simp only [sA]); (try simp only [sB, sC])
       refine tk 12 ?_
       refine wpAnyH_ready (rs := [13]) (by kernel_rfl) (by simp) ?_
       refine AllReadyH.cons (o := _) rfl (fun K hK => ?_) AllReadyH.nil
       (try simp only [gA, gB, gC])
       go_simp
       refine hK.out _ _ (by exact KS.out _ HK6.out) (fun hHeld14 => ?_)
       clear hK K
       (try simp only [Act.put]); (try simp only [sA]); (try simp only [sB, sC])
       refine wpAnyH_done (by kernel_rfl) ?_ _
       refine NoPanic.normal ?_
       have HC6 : Hid (CbAt base (w5.setCell ⟨cb, 6, none⟩ (.slice (some ⟨g5, 0, none⟩) (j + 1) cap)) cb sh v1' (.slice (some ⟨g5, 0, none⟩) (j + 1) cap) (.slice none 0 0) cols (regs ++ [⟨(xs : Int), xi⟩]) []) := HC1.out.push2 (d := ⟨(xs : Int), xi⟩) (u := .slice (some ⟨g5, 0, none⟩) (j + 1) cap) (by rw [HLR.out]; exact HOW.out) HG5.out
       have HLB : Hid (Blk (w5.setCell ⟨cb, 6, none⟩ (.slice (some ⟨g5, 0, none⟩) (j + 1) cap)) sb 48 (stQ (some ⟨ab, ao, none⟩) bd c (P + 1 + k1))) := (But.set cb 6 w5 _).blk ((HG5.out.block sb HL1.out.lt (fun e => by have := (HO1.out.lt sb e.symm).1; omega)).trans HL1.out) (by omega)
       generalize w5.setCell ⟨cb, 6, none⟩ (.slice (some ⟨g5, 0, none⟩) (j + 1) cap) = X6 at *
       clear HO1 HO2 HG5 HOW c5 f5 q2v q3v HC1 HL1 HK5 HK1 HK2 HKt1 HKt2 HB1 HB2
       go_wp2
       go_roundw
       case measure => simp [intOf]; omega
       case rel => exact ⟨j + 1, P + 1 + k1, _, _, by omega, by simp, HC6.out, HLR2.out, HLB.out, HPL2.out, HPG2.out, HK6.out⟩
      refine AllReadyH.cons (o := _) rfl (fun K hK => ?_) AllReadyH.nil
      (try simp only [gA, gB, gC])
      go_simp
      go_at_call 21
      refine (TK2.out t2 HB2.out).mono ?_
      rintro e v ⟨rfl, h1', h2'⟩
      have HK1 : Hid (Kp [sb, cb] W1 v) := HKt2.out.trans (h1'.kp (by simp))
      have HC1 : Hid (CbAt base v cb sh v1' v2 (.slice none 0 0) cols regs []) := (HCB.out.kp (gs := [sb]) (Below.kp HB2.out) (by simp; omega) (by intro g hg; simp at hg; left; omega)).but h1' (by omega) (by omega)
      have HL1 := hidden h2'
      have HO1 : Hid (v.ownsRow base 57 2 v2 j (regs.flatMap RgD.cells)) := by have := HC1.out.o2; rwa [HLR.out] at this
      have HO2 := hidden (HO1.out.alloc (.cells #[.int .i64 (xs : Int), .bool xi] 57))
      have HZ2w : Hid (base ≤ (v.alloc (.cells #[.int .i64 (xs : Int), .bool xi] 57)).heap.size) := by have := HK1.out.size; show base ≤ _; simp; omega
      have q2v : v.cell? ⟨cb, 6, none⟩ = some v2 := HC1.out.box.cell rfl
      have HK2 : Hid (Kp [sb, cb] W1 (v.alloc (.cells #[.int .i64 (xs : Int), .bool xi] 57))) := HK1.out.trans (Below.kp ((Below.refl _ _).alloc (Nat.le_refl _) _))
      have q3v : (v.alloc (.cells #[.int .i64 (xs : Int), .bool xi] 57)).cell? ⟨cb, 6, none⟩ = some v2 := (HC1.out.box.below ((Below.refl _ _).alloc (Nat.le_refl _) _)).cell rfl
      clear h1' h2' 
      go_wp2_with fail
      refine hK.out _ _ (by exact KS.out _ HK1.out) (fun hHeld8 => ?_)
      clear hK K
      (try simp only [Act.put]); (try simp only [sA]); (try simp only [sB, sC])
      refine tk 9 ?_
      refine wpAnyH_ready (rs := [1, 10]) (by kernel_rfl) (by simp) ?_
      refine AllReadyH.cons (o := _) rfl (fun K hK => ?_) ?_
      ·(try simp only [gA, gB, gC])
       go_simp
       refine hK.out _ _ (by first | exact KS.out _ HK2.out | exact KS.out _ HK1.out | exact KS.out _ HKt2.out | exact KS.out _ HKt1.out | exact KS.out _ HKD.out) (fun hHeld4 => ?_)
       clear hK K
       (try simp only [Act.put]); (try simp only [sA]); (try simp only [sB, sC])
       refine wpAnyH_ready (rs := [10]) (by kernel_rfl) (by simp) ?_
       refine AllReadyH.cons (o := _) rfl (fun K hK => ?_) AllReadyH.nil
       (try simp only [gA, gB, gC])
       go_simp
       refine hK.out _ _ (by exact KS.out _ HK2.out) (fun hHeld10 => ?_)
       clear hK K
       (try simp only [Act.put]); (try simp only [sA]); (try simp only [sB, sC])
       refine wpAnyH_ready (rs := [11]) (by kernel_rfl) (by simp) ?_
       refine AllReadyH.cons (o := _) rfl (fun K hK => ?_) AllReadyH.nil
       refine step_append_lies _ rfl (.tmp 135) (.tmp 144) 29 rfl base 57 i2 _ 2 16 Tryd.underlying29 HI2.out HZ2i.out HS2.out HY2.out rfl (by decide) v2 j _ rfl HO2.out ⟨v.heap.size, 0, none⟩ 1 1 [.int .i64 (xs : Int), .bool xi] rfl rfl (World.news_of_block (heap_new _ _)) (by simp [Value.oneCell']) (by decide) hm1 hm2 HZ2w.out _ rfl ?_
       intro g5 cap w5 hown hgrow hat hlt5
       have HG5 : Hid (v.grownBy w5 v2.ownBlock) := grown_trans (World.grownBy_alloc _ _ _) hgrow
       have HOW := hidden hown
       have HK5 : Hid (Kp [sb, cb] W1 w5) := HK1.out.grow HG5.out (fun k hk => by have := (HO1.out.lt k hk).1; omega)
       have hB5 : Blk w5 cb 32 _ := (HG5.out.block cb HC1.out.box.lt (fun e => by have := (HO1.out.lt cb e.symm).1; have := HC1.out.lt; omega)).trans HC1.out.box
       have c5 : w5.cell? ⟨cb, 6, none⟩ = some v2 := hB5.cell rfl
       have f5 := hB5.frozen 6
       clear hown hgrow hat hlt5 hB5
       have HK6 : Hid (Kp [sb, cb] W1 (w5.setCell ⟨cb, 6, none⟩ (.slice (some ⟨g5, 0, none⟩) (j + 1) cap))) := HK5.out.trans (Kp.set _ _ _ _ _ (by simp))
       refine hK.out _ _ (by exact KS.out _ HK5.out) (fun hHeld11 => ?_)
       clear hK K
       (try simp only [Act.put]); (try simp only [sA]); (try simp only [sB, sC])
       refine tk 12 ?_
       refine wpAnyH_ready (rs := [13]) (by kernel_rfl) (by simp) ?_
       refine AllReadyH.cons (o := _) rfl (fun K hK => ?_) AllReadyH.nil
       (try simp only [gA, gB, gC])
       go_simp
       refine hK.out _ _ (by exact KS.out _ HK6.out) (fun hHeld14 => ?_)
       clear hK K
       (try simp only [Act.put]); (try simp only [sA]); (try simp only [sB, sC])
       refine wpAnyH_done (by kernel_rfl) ?_ _
       refine NoPanic.normal ?_
       have HC6 : Hid (CbAt base (w5.setCell ⟨cb, 6, none⟩ (.slice (some ⟨g5, 0, none⟩) (j + 1) cap)) cb sh v1' (.slice (some ⟨g5, 0, none⟩) (j + 1) cap) (.slice none 0 0) cols (regs ++ [⟨(xs : Int), xi⟩]) []) := HC1.out.push2 (d := ⟨(xs : Int), xi⟩) (u := .slice (some ⟨g5, 0, none⟩) (j + 1) cap) (by rw [HLR.out]; exact HOW.out) HG5.out
       have HLB : Hid (Blk (w5.setCell ⟨cb, 6, none⟩ (.slice (some ⟨g5, 0, none⟩) (j + 1) cap)) sb 48 (stQ (some ⟨ab, ao, none⟩) bd c (P + 1 + k1))) := (But.set cb 6 w5 _).blk ((HG5.out.block sb HL1.out.lt (fun e => by have := (HO1.out.lt sb e.symm).1; omega)).trans HL1.out) (by omega)
       generalize w5.setCell ⟨cb, 6, none⟩ (.slice (some ⟨g5, 0, none⟩) (j + 1) cap) = X6 at *
       clear HO1 HO2 HG5 HOW c5 f5 q2v q3v HC1 HL1 HK5 HK1 HK2 HKt1 HKt2 HB1 HB2
       go_wp2
       go_roundw
       case measure => simp [intOf]; omega
       case rel => exact ⟨j + 1, P + 1 + k1, _, _, by omega, by simp, HC6.out, HLR2.out, HLB.out, HPL2.out, HPG2.out, HK6.out⟩
      refine AllReadyH.cons (o := _) rfl (fun K hK => ?_) AllReadyH.nil
      (try simp only [gA, gB, gC])
      go_simp
      refine hK.out _ _ (by exact KS.out _ HK2.out) (fun hHeld10 => ?_)
      clear hK K
      (try simp only [Act.put]); (try simp only [sA]); (try simp only [sB, sC])
      refine wpAnyH_ready (rs := [1]) (by kernel_rfl) (by simp) ?_
      refine AllReadyH.cons (o := _) rfl (fun K hK => ?_) AllReadyH.nil
      (try simp only [gA, gB, gC])
      go_simp
      refine hK.out _ _ (by first | exact KS.out _ HK2.out | exact KS.out _ HK1.out | exact KS.out _ HKt2.out | exact KS.out _ HKt1.out | exact KS.out _ HKD.out) (fun hHeld4 => ?_)
      clear hK K
      (try simp only [Act.put]); (try simp only [sA]); (try simp only [sB, sC])
      refine wpAnyH_ready (rs := [11]) (by kernel_rfl) (by simp) ?_
      refine AllReadyH.cons (o := _) rfl (fun K hK => ?_) AllReadyH.nil
      refine step_append_lies _ rfl (.tmp 135) (.tmp 144) 29 rfl base 57 i2 _ 2 16 Tryd.underlying29 HI2.out HZ2i.out HS2.out HY2.out rfl (by decide) v2 j _ rfl HO2.out ⟨v.heap.size, 0, none⟩ 1 1 [.int .i64 (xs : Int), .bool xi] rfl rfl (World.news_of_block (heap_new _ _)) (by simp [Value.oneCell']) (by decide) hm1 hm2 HZ2w.out _ rfl ?_
      intro g5 cap w5 hown hgrow hat hlt5
      have HG5 : Hid (v.grownBy w5 v2.ownBlock) := grown_trans (World.grownBy_alloc _ _ _) hgrow
      have HOW := hidden hown
      have HK5 : Hid (Kp [sb, cb] W1 w5) := HK1.out.grow HG5.out (fun k hk => by have := (HO1.out.lt k hk).1; omega)
      have hB5 : Blk w5 cb 32 _ := (HG5.out.block cb HC1.out.box.lt (fun e => by have := (HO1.out.lt cb e.symm).1; have := HC1.out.lt; omega)).trans HC1.out.box
      have c5 : w5.cell? ⟨cb, 6, none⟩ = some v2 := hB5.cell rfl
      have f5 := hB5.frozen 6
      clear hown hgrow hat hlt5 hB5
      have HK6 : Hid (Kp [sb, cb] W1 (w5.setCell ⟨cb, 6, none⟩ (.slice (some ⟨g5, 0, none⟩) (j + 1) cap))) := HK5.out.trans (Kp.set _ _ _ _ _ (by simp))
      refine hK.out _ _ (by exact KS.out _ HK5.out) (fun hHeld11 => ?_)
      clear hK K
      (try simp only [Act.put]); (try simp only [sA]); (try simp only [sB, sC])
      refine tk 12 ?_
      refine wpAnyH_ready (rs := [13]) (by kernel_rfl) (by simp) ?_
      refine AllReadyH.cons (o := _) rfl (fun K hK => ?_) AllReadyH.nil
      (try simp only [gA, gB, gC])
      go_simp
      refine hK.out _ _ (by exact KS.out _ HK6.out) (fun hHeld14 => ?_)
      clear hK K
      (try simp only [Act.put]); (try simp only [sA]); (try simp only [sB, sC])
      refine wpAnyH_done (by kernel_rfl) ?_ _
      refine NoPanic.normal ?_
      have HC6 : Hid (CbAt base (w5.setCell ⟨cb, 6, none⟩ (.slice (some ⟨g5, 0, none⟩) (j + 1) cap)) cb sh v1' (.slice (some ⟨g5, 0, none⟩) (j + 1) cap) (.slice none 0 0) cols (regs ++ [⟨(xs : Int), xi⟩]) []) := HC1.out.push2 (d := ⟨(xs : Int), xi⟩) (u := .slice (some ⟨g5, 0, none⟩) (j + 1) cap) (by rw [HLR.out]; exact HOW.out) HG5.out
      have HLB : Hid (Blk (w5.setCell ⟨cb, 6, none⟩ (.slice (some ⟨g5, 0, none⟩) (j + 1) cap)) sb 48 (stQ (some ⟨ab, ao, none⟩) bd c (P + 1 + k1))) := (But.set cb 6 w5 _).blk ((HG5.out.block sb HL1.out.lt (fun e => by have := (HO1.out.lt sb e.symm).1; omega)).trans HL1.out) (by omega)
      generalize w5.setCell ⟨cb, 6, none⟩ (.slice (some ⟨g5, 0, none⟩) (j + 1) cap) = X6 at *
      clear HO1 HO2 HG5 HOW c5 f5 q2v q3v HC1 HL1 HK5 HK1 HK2 HKt1 HKt2 HB1 HB2
      go_wp2
      go_roundw
      case measure => simp [intOf]; omega
      case rel => exact ⟨j + 1, P + 1 + k1, _, _, by omega, by simp, HC6.out, HLR2.out, HLB.out, HPL2.out, HPG2.out, HK6.out⟩
     ·have hge : ¬ ((j : Int) < (z2 : Int)) := by omega
      have hj2 : j = z2 := by omega
      obtain ⟨OP, hOP⟩ : ∃ p, p = RP + z2 * (1 + k1) := ⟨_, rfl⟩
      have hOPl : OP ≤ 5000080 := by rw [hOP]; have : z2 * (1 + k1) ≤ 500 * 17 := Nat.mul_le_mul (by omega) (by omega); omega
      have HPL0 : Hid (P ≤ 32 + (OP + 0 * k1)) := by
       show P ≤ _
       have := HPL.out
       rw [hj2] at this
       rw [Nat.zero_mul, Nat.add_zero, hOP]
       exact this
      have HPG0 : Hid (P ≤ 8 * n → P = 32 + (OP + 0 * k1) ∧ [] = (List.range 0).map (outF nm OP k1) ∧ regs = (List.range z2).map (regF nm RP k1) ∧ cols.map ClD.cs = (List.range z4).map (colF nm z3 k0 k1)) := by
       intro hle
       obtain ⟨e1, e2, e3⟩ := HPG.out hle
       rw [hj2] at e1 e2
       exact ⟨by rw [Nat.zero_mul, Nat.add_zero, hOP]; exact e1, rfl, e2, e3⟩
      have HRL2 : Hid (regs.length = z2) := by show _ = _; rw [HLR.out, hj2]
      have HOPE := hidden hOP
      clear HPL HPG HLR hOP hj2 hj hlt
      go_wp2_with fail
      clear y2
      go_loopw [17] (fun j' w' => ∃ (j P : Nat) (v3 : Value) (outs : List Int), j ≤ z1 ∧ j' = .int .i64 j ∧ Hid (CbAt base w' cb sh v1' v2 v3 cols regs outs) ∧ Hid (outs.length = j) ∧ Hid (Blk w' sb 48 (stQ (some ⟨ab, ao, none⟩) bd c P)) ∧ Hid (P ≤ 32 + (OP + j * k1)) ∧ Hid (P ≤ 8 * n → P = 32 + (OP + j * k1) ∧ outs = (List.range j).map (outF nm OP k1) ∧ regs = (List.range z2).map (regF nm RP k1) ∧ cols.map ClD.cs = (List.range z4).map (colF nm z3 k0 k1)) ∧ Hid (Kp [sb, cb] W1 w')) (fun j' _ => z1 - (intOf j').toNat)
      case atStart => exact ⟨0, P, _, [], Nat.zero_le _, rfl, HCB.out, rfl, HSB.out, HPL0.out, HPG0.out, HKW.out⟩
      case round =>
       clear HCB HSB HPL0 HPG0 HKW
       obtain ⟨j, P, v3, outs, hj, rfl, HCB, HLR, HSB, HPL, HPG, HKW⟩ := hrel
       have y1 : wr.cell? ⟨sx, 1, none⟩ = some (.int .i64 (z1 : Int)) := (KSX.out _ HKW.out).cell rfl
       by_cases hlt : j < z1
       ·have hltI : (j : Int) < (z1 : Int) := by omega
        have ej : IntKind.i64.wrap ((j : Int) + 1) = (j : Int) + 1 := wrapI _ (by omega) (by omega)
        obtain ⟨xs, HXS⟩ : ∃ b, Hid (b = takeV bd P k1) := ⟨_, rfl⟩
        have HLR2 : Hid ((outs ++ [(xs : Int)]).length = j + 1) := by show _ = _; rw [List.length_append, HLR.out]; rfl
        have HPL2 : Hid (P + k1 ≤ 32 + (OP + (j + 1) * k1)) := by
         show _ ≤ _
         have := HPL.out
         rw [Nat.add_mul, Nat.one_mul]
         omega
        have HPG2 : Hid (P + k1 ≤ 8 * n → P + k1 = 32 + (OP + (j + 1) * k1) ∧ outs ++ [(xs : Int)] = (List.range (j + 1)).map (outF nm OP k1) ∧ regs = (List.range z2).map (regF nm RP k1) ∧ cols.map ClD.cs = (List.range z4).map (colF nm z3 k0 k1)) := by
         intro hle
         obtain ⟨e1, e2, e3, e4⟩ := HPG.out (by omega)
         refine ⟨by rw [e1, Nat.add_mul, Nat.one_mul]; omega, ?_, e3, e4⟩
         rw [List.range_succ, List.map_append, ← e2]
         congr 1
         show [(xs : Int)] = [outF nm OP k1 j]
         unfold outF
         have h2 : xs = nm (OP + j * k1) k1 := by
          rw [HXS.out]
          unfold takeV
          rw [HBDL.out, if_pos (by omega), e1, HNN.out]
         rw [h2]
        clear HPL HPG
        obtain ⟨wr0, hwr0⟩ : ∃ x, x = wr := ⟨_, rfl⟩
        rw [← hwr0] at HCB HKW HSB y1
        rw [← hwr0]
        clear hwr0
        have TK2 : Hid (∀ v, Below wr0.heap.size wr0 v → Calls Tryd.prog 21 #[.pointer (some ⟨sb, 0, none⟩), .int .i64 (k1 : Int)] v fun e w' => e = .returned (.int .i64 (xs : Int)) ∧ But sb v w' ∧ Blk w' sb 48 (stQ (some ⟨ab, ao, none⟩) bd c (P + k1))) := fun v hv => by rw [HXS.out]; exact TAKG.out v P k1 (HSB.out.below hv) (HKW.out.trans (Below.kp hv)) k1l
        have KS : Hid (∀ w', Kp [sb, cb] W1 w' → (fun w' => w'.cell? ⟨sx, 0, none⟩ = some (.int .i64 (z0 : Int)) ∧ w'.cell? ⟨sx, 1, none⟩ = some (.int .i64 (z1 : Int)) ∧ w'.cell? ⟨sx, 2, none⟩ = some (.int .i64 (z2 : Int)) ∧ w'.cell? ⟨sx, 3, none⟩ = some (.int .i64 (z3 : Int)) ∧ w'.cell? ⟨sx, 4, none⟩ = some (.int .i64 (z4 : Int))) w') := fun w' hw' => ⟨(KSX.out _ hw').cell rfl, (KSX.out _ hw').cell rfl, (KSX.out _ hw').cell rfl, (KSX.out _ hw').cell rfl, (KSX.out _ hw').cell rfl⟩
        have HKD : Hid (Kp [sb, cb] W1 wr0.drew) := HKW.out.drew
        have hm1 : j + 1 ≤ maxLen := by simp only [maxLen]; omega
        have hm2 : (j + 1) * 8 ≤ 140737488355328 := by omega
        go_wp2_with fail
        have q1 : wr0.cell? ⟨cb, 7, none⟩ = some v3 := HCB.out.box.cell rfl
        clear y1
        refine wp_region_noPanic ?_
        refine wp_region_held_drew (S := (fun w' => w'.cell? ⟨sx, 0, none⟩ = some (.int .i64 (z0 : Int)) ∧ w'.cell? ⟨sx, 1, none⟩ = some (.int .i64 (z1 : Int)) ∧ w'.cell? ⟨sx, 2, none⟩ = some (.int .i64 (z2 : Int)) ∧ w'.cell? ⟨sx, 3, none⟩ = some (.int .i64 (z3 : Int)) ∧ w'.cell? ⟨sx, 4, none⟩ = some (.int .i64 (z4 : Int)))) (by kernel_rfl) (by first | exact KS.out _ HK2.out | exact KS.out _ HK1.out | exact KS.out _ HKt2.out | exact KS.out _ HKt1.out | exact KS.out _ HKD.out) (fun hHeld => ?_)
        refine tk 0 ?_
        refine tk 2 ?_
        refine tk 3 ?_
        refine wpAnyH_ready (rs := [1, 4]) (by kernel_rfl) (by simp) ?_
        refine AllReadyH.cons (o := _) rfl (fun K hK => ?_) ?_
        ·(try simp only [gA, gB, gC])
         go_simp
         refine hK.out _ _ (by first | exact KS.out _ HK2.out | exact KS.out _ HK1.out | exact KS.out _ HKt2.out | exact KS.out _ HKt1.out | exact KS.out _ HKD.out) (fun hHeld4 => ?_)
         clear hK K
         (try simp only [Act.put]); (try simp only [sA]); (try simp only [sB, sC])
         refine wpAnyH_ready (rs := [4]) (by kernel_rfl) (by simp) ?_
         refine AllReadyH.cons (o := _) rfl (fun K hK => ?_) AllReadyH.nil
         (try simp only [gA, gB, gC])
         go_simp
         go_at_call 14
         refine (SRC1.out _).mono ?_
         rintro e t1 ⟨rfl, hb1⟩
         have HB1 : Hid (Below wr0.heap.size wr0 t1) := ⟨hb1.os, hb1.tape, hb1.output, hb1.size, hb1.block⟩
         have HKt1 : Hid (Kp [sb, cb] W1 t1) := HKW.out.trans (Below.kp HB1.out)
         have q1' : t1.cell? ⟨cb, 7, none⟩ = some v3 := (HCB.out.box.below HB1.out).cell rfl
         clear hb1
         go_wp2_with fail
         refine hK.out _ _ (by exact KS.out _ HKt1.out) (fun hHeld6 => ?_)
         clear hK K
         (try simp only [Act.put]); (try simp only [sA]); (try simp only [sB, sC])
         refine wpAnyH_ready (rs := [5]) (by kernel_rfl) (by simp) ?_
         refine AllReadyH.cons (o := _) rfl (fun K hK => ?_) AllReadyH.nil
         (try simp only [gA, gB, gC])
         go_simp
         go_at_call 13
         refine (BIT1.out _).mono ?_
         rintro e t2 ⟨rfl, ht2⟩
         have HB2 : Hid (Below wr0.heap.size wr0 t2) := by rw [ht2]; exact HB1.out
         have HKt2 : Hid (Kp [sb, cb] W1 t2) := by rw [ht2]; exact HKt1.out
         have q2' : t2.cell? ⟨cb, 7, none⟩ = some v3 := by rw [ht2]; exact q1'
         clear ht2
         go_wp2_with fail
         refine hK.out _ _ (by exact KS.out _ HKt2.out) (fun hHeld7 => ?_)
         clear hK K
         (try simp only [Act.put]); (try simp only [sA]); (try simp only [sB, sC])
         refine wpAnyH_ready (rs := [6]) (by kernel_rfl) (by simp) ?_
         refine AllReadyH.cons (o := _) rfl (fun K hK => ?_) AllReadyH.nil
         (try simp only [gA, gB, gC])
         go_simp
         go_at_call 21
         refine (TK2.out t2 HB2.out).mono ?_
         rintro e v ⟨rfl, h1', h2'⟩
         have HK1 : Hid (Kp [sb, cb] W1 v) := HKt2.out.trans (h1'.kp (by simp))
         have HC1 : Hid (CbAt base v cb sh v1' v2 v3 cols regs outs) := (HCB.out.kp (gs := [sb]) (Below.kp HB2.out) (by simp; omega) (by intro g hg; simp at hg; left; omega)).but h1' (by omega) (by omega)
         have HL1 := hidden h2'
         have HO1 : Hid (v.ownsRow base 3 1 v3 j (outs.map intV)) := by have := HC1.out.o3; rwa [HLR.out] at this
         have HO2 := hidden (HO1.out.alloc (.cells #[.int .i64 (xs : Int)] 3))
         have HZ2w : Hid (base ≤ (v.alloc (.cells #[.int .i64 (xs : Int)] 3)).heap.size) := by have := HK1.out.size; show base ≤ _; simp; omega
         have q2v : v.cell? ⟨cb, 7, none⟩ = some v3 := HC1.out.box.cell rfl
         have HK2 : Hid (Kp [sb, cb] W1 (v.alloc (.cells #[.int .i64 (xs : Int)] 3))) := HK1.out.trans (Below.kp ((Below.refl _ _).alloc (Nat.le_refl _) _))
         have q3v : (v.alloc (.cells #[.int .i64 (xs : Int)] 3)).cell? ⟨cb, 7, none⟩ = some v3 := (HC1.out.box.below ((Below.refl _ _).alloc (Nat.le_refl _) _)).cell rfl
         clear h1' h2' 
         go_wp2_with fail
         refine hK.out _ _ (by exact KS.out _ HK1.out) (fun hHeld8 => ?_)
         clear hK K
         (try simp only [Act.put]); (try simp only [sA]); (try simp only [sB, sC])
         refine wpAnyH_ready (rs := [7]) (by kernel_rfl) (by simp) ?_
         refine AllReadyH.cons (o := _) rfl (fun K hK => ?_) AllReadyH.nil
         (try simp only [gA, gB, gC])
         go_simp
         refine hK.out _ _ (by exact KS.out _ HK2.out) (fun hHeld10 => ?_)
         clear hK K
         (try simp only [Act.put]); (try simp only [sA]); (try simp only [sB, sC])
         refine wpAnyH_ready (rs := [8]) (by kernel_rfl) (by simp) ?_
         refine AllReadyH.cons (o := _) rfl (fun K hK => ?_) AllReadyH.nil
         refine step_append_lies _ rfl (.tmp 154) (.tmp 160) 30 rfl base 3 i3 _ 1 8 Tryd.underlying30 HI3.out HZ3i.out HS3.out HY3.out rfl (by decide) v3 j _ rfl HO2.out ⟨v.heap.size, 0, none⟩ 1 1 [.int .i64 (xs : Int)] rfl rfl (World.news_of_block (heap_new _ _)) (by simp [Value.oneCell']) (by decide) hm1 hm2 HZ2w.out _ rfl ?_
         intro g5 cap w5 hown hgrow hat hlt5
         have HG5 : Hid (v.grownBy w5 v3.ownBlock) := grown_trans (World.grownBy_alloc _ _ _) hgrow
         have HOW := hidden hown
         have HK5 : Hid (Kp [sb, cb] W1 w5) := HK1.out.grow HG5.out (fun k hk => by have := (HO1.out.lt k hk).1; omega)
         have hB5 : Blk w5 cb 32 _ := (HG5.out.block cb HC1.out.box.lt (fun e => by have := (HO1.out.lt cb e.symm).1; have := HC1.out.lt; omega)).trans HC1.out.box
         have c5 : w5.cell? ⟨cb, 7, none⟩ = some v3 := hB5.cell rfl
         have f5 := hB5.frozen 7
         clear hown hgrow hat hlt5 hB5
         have HK6 : Hid (Kp [sb, cb] W1 (w5.setCell ⟨cb, 7, none⟩ (.slice (some ⟨g5, 0, none⟩) (j + 1) cap))) := HK5.out.trans (Kp.set _ _ _ _ _ (by simp))
         refine hK.out _ _ (by exact KS.out _ HK5.out) (fun hHeld11 => ?_)
         clear hK K
         (try simp only [Act.put]); (try simp only [sA]); (try simp only [sB, sC])
         refine tk 9 ?_
         refine wpAnyH_ready (rs := [10]) (by kernel_rfl) (by simp) ?_
         refine AllReadyH.cons (o := _) rfl (fun K hK => ?_) AllReadyH.nil
         (try simp only [gA, gB, gC])
         go_simp
         refine hK.out _ _ (by exact KS.out _ HK6.out) (fun hHeld14 => ?_)
         clear hK K
         (try simp only [Act.put]); (try simp only [sA]); (try simp only [sB, sC])
         refine wpAnyH_done (by kernel_rfl) ?_ _
         refine NoPanic.normal ?_
         have HC6 : Hid (CbAt base (w5.setCell ⟨cb, 7, none⟩ (.slice (some ⟨g5, 0, none⟩) (j + 1) cap)) cb sh v1' v2 (.slice (some ⟨g5, 0, none⟩) (j + 1) cap) cols regs (outs ++ [(xs : Int)])) := HC1.out.push3 (x := (xs : Int)) (u := .slice (some ⟨g5, 0, none⟩) (j + 1) cap) (by rw [HLR.out]; exact HOW.out) HG5.out
         have HLB : Hid (Blk (w5.setCell ⟨cb, 7, none⟩ (.slice (some ⟨g5, 0, none⟩) (j + 1) cap)) sb 48 (stQ (some ⟨ab, ao, none⟩) bd c (P + k1))) := (But.set cb 7 w5 _).blk ((HG5.out.block sb HL1.out.lt (fun e => by have := (HO1.out.lt sb e.symm).1; omega)).trans HL1.out) (by omega)
         generalize w5.setCell ⟨cb, 7, none⟩ (.slice (some ⟨g5, 0, none⟩) (j + 1) cap) = X6 at *
         clear HO1 HO2 HG5 HOW c5 f5 q2v q3v HC1 HL1 HK5 HK1 HK2 HKt1 HKt2 HB1 HB2
         go_wp2
         go_roundw
         case measure => simp [intOf]; omega
         case rel => exact ⟨j + 1, P + k1, _, _, by omega, by simp, HC6.out, HLR2.out, HLB.out, HPL2.out, HPG2.out, HK6.out⟩
        refine AllReadyH.cons (o := _) rfl (fun K hK => ?_) AllReadyH.nil
        (try simp only [gA, gB, gC])
        go_simp
        go_at_call 14
        refine (SRC1.out _).mono ?_
        rintro e t1 ⟨rfl, hb1⟩
        have HB1 : Hid (Below wr0.heap.size wr0 t1) := ⟨hb1.os, hb1.tape, hb1.output, hb1.size, hb1.block⟩
        have HKt1 : Hid (Kp [sb, cb] W1 t1) := HKW.out.trans (Below.kp HB1.out)
        have q1' : t1.cell? ⟨cb, 7, none⟩ = some v3 := (HCB.out.box.below HB1.out).cell rfl
        clear hb1
        go_wp2_with fail
        refine hK.out _ _ (by exact KS.out _ HKt1.out) (fun hHeld6 => ?_)
        clear hK K
        (try simp only [Act.put]); (try simp only [sA]); (try simp only [sB, sC])
        refine wpAnyH_ready (rs := [1, 5]) (by kernel_rfl) (by simp) ?_
        refine AllReadyH.cons (o := _) rfl (fun K hK => ?_) ?_
        ·(try simp only [gA, gB, gC])
         go_simp
         refine hK.out _ _ (by first | exact KS.out _ HK2.out | exact KS.out _ HK1.out | exact KS.out _ HKt2.out | exact KS.out _ HKt1.out | exact KS.out _ HKD.out) (fun hHeld4 => ?_)
         clear hK K
         (try simp only [Act.put]); (try simp only [sA]); (try simp only [sB, sC])
         refine wpAnyH_ready (rs := [5]) (by kernel_rfl) (by simp) ?_
         refine AllReadyH.cons (o := _) rfl (fun K hK => ?_) AllReadyH.nil
         (try simp only [gA, gB, gC])
         go_simp
         go_at_call 13
         refine (BIT1.out _).mono ?_
         rintro e t2 ⟨rfl, ht2⟩
         have HB2 : Hid (Below wr0.heap.size wr0 t2) := by rw [ht2]; exact HB1.out
         have HKt2 : Hid (Kp [sb, cb] W1 t2) := by rw [ht2]; exact HKt1.out
         have q2' : t2.cell? ⟨cb, 7, none⟩ = some v3 := by rw [ht2]; exact q1'
         clear ht2
         go_wp2_with fail
         refine hK.out _ _ (by exact KS.out _ HKt2.out) (fun hHeld7 => ?_)
         clear hK K
         (try simp only [Act.put]); (try simp only [sA]); (try simp only [sB, sC])
         refine wpAnyH_ready (rs := [6]) (by kernel_rfl) (by simp) ?_
         refine AllReadyH.cons (o := _) rfl (fun K hK => ?_) AllReadyH.nil
         (try simp only [gA, gB, gC])
         go_simp
         go_at_call 21
         refine (TK2.out t2 HB2.out).mono ?_
         rintro e v ⟨rfl, h1', h2'⟩
         have HK1 : Hid (Kp [sb, cb] W1 v) := HKt2.out.trans (h1'.kp (by simp))
         have HC1 : Hid (CbAt base v cb sh v1' v2 v3 cols regs outs) := (HCB.out.kp (gs := [sb]) (Below.kp HB2.out) (by simp; omega) (by intro g hg; simp at hg; left; omega)).but h1' (by omega) (by omega)
         have HL1 := hidden h2'
         have HO1 : Hid (v.ownsRow base 3 1 v3 j (outs.map intV)) := by have := HC1.out.o3; rwa [HLR.out] at this
         have HO2 := hidden (HO1.out.alloc (.cells #[.int .i64 (xs : Int)] 3))
         have HZ2w : Hid (base ≤ (v.alloc (.cells #[.int .i64 (xs : Int)] 3)).heap.size) := by have := HK1.out.size; show base ≤ _; simp; omega
         have q2v : v.cell? ⟨cb, 7, none⟩ = some v3 := HC1.out.box.cell rfl
         have HK2 : Hid (Kp [sb, cb] W1 (v.alloc (.cells #[.int .i64 (xs : Int)] 3))) := HK1.out.trans (Below.kp ((Below.refl _ _).alloc (Nat.le_refl _) _))
         have q3v : (v.alloc (.cells #[.int .i64 (xs : Int)] 3)).cell? ⟨cb, 7, none⟩ = some v3 := (HC1.out.box.below ((Below.refl _ _).alloc (Nat.le_refl _) _)).cell rfl
         clear h1' h2' 
         go_wp2_with fail
         refine hK.out _ _ (by exact KS.out _ HK1.out) (fun hHeld8 => ?_)
         clear hK K
         (try simp only [Act.put]); (try simp only [sA]); (try simp only [sB, sC])
         refine wpAnyH_ready (rs := [7]) (by kernel_rfl) (by simp) ?_
         refine AllReadyH.cons (o := _) rfl (fun K hK => ?_) AllReadyH.nil
         (try simp only [gA, gB, gC])
         go_simp
         refine hK.out _ _ (by exact KS.out _ HK2.out) (fun hHeld10 => ?_)
         clear hK K
         (try simp only [Act.put]); (try simp only [sA]); (try simp only [sB, sC])
         refine wpAnyH_ready (rs := [8]) (by kernel_rfl) (by simp) ?_
         refine AllReadyH.cons (o := _) rfl (fun K hK => ?_) AllReadyH.nil
         refine step_append_lies _ rfl (.tmp 154) (.tmp 160) 30 rfl base 3 i3 _ 1 8 Tryd.underlying30 HI3.out HZ3i.out HS3.out HY3.out rfl (by decide) v3 j _ rfl HO2.out ⟨v.heap.size, 0, none⟩ 1 1 [.int .i64 (xs : Int)] rfl rfl (World.news_of_block (heap_new _ _)) (by simp [Value.oneCell']) (by decide) hm1 hm2 HZ2w.out _ rfl ?_
         intro g5 cap w5 hown hgrow hat hlt5
         have HG5 : Hid (v.grownBy w5 v3.ownBlock) := grown_trans (World.grownBy_alloc _ _ _) hgrow
         have HOW := hidden hown
         have HK5 : Hid (Kp [sb, cb] W1 w5) := HK1.out.grow HG5.out (fun k hk => by have := (HO1.out.lt k hk).1; omega)
         have hB5 : Blk w5 cb 32 _ := (HG5.out.block cb HC1.out.box.lt (fun e => by have := (HO1.out.lt cb e.symm).1; have := HC1.out.lt; omega)).trans HC1.out.box
         have c5 : w5.cell? ⟨cb, 7, none⟩ = some v3 := hB5.cell rfl
         have f5 := hB5.frozen 7
         clear hown hgrow hat hlt5 hB5
         have HK6 : Hid (Kp [sb, cb] W1 (w5.setCell ⟨cb, 7, none⟩ (.slice (some ⟨g5, 0, none⟩) (j + 1) cap))) := HK5.out.trans (Kp.set _ _ _ _ _ (by simp))
         refine hK.out _ _ (by exact KS.out _ HK5.out) (fun hHeld11 => ?_)
         clear hK K
         (try simp only [Act.put]); (try simp only [sA]); (try simp only [sB, sC])
         refine tk 9 ?_
         refine wpAnyH_ready (rs := [10]) (by kernel_rfl) (by simp) ?_
         refine AllReadyH.cons (o := _) rfl (fun K hK => ?_) AllReadyH.nil
         (try simp only [gA, gB, gC])
         go_simp
         refine hK.out _ _ (by exact KS.out _ HK6.out) (fun hHeld14 => ?_)
         clear hK K
         (try simp only [Act.put]); (try simp only [sA]); (try simp only [sB, sC])
         refine wpAnyH_done (by kernel_rfl) ?_ _
         refine NoPanic.normal ?_
         have HC6 : Hid (CbAt base (w5.setCell ⟨cb, 7, none⟩ (.slice (some ⟨g5, 0, none⟩) (j + 1) cap)) cb sh v1' v2 (.slice (some ⟨g5, 0, none⟩) (j + 1) cap) cols regs (outs ++ [(xs : Int)])) := HC1.out.push3 (x := (xs : Int)) (u := .slice (some ⟨g5, 0, none⟩) (j + 1) cap) (by rw [HLR.out]; exact HOW.out) HG5.out
         have HLB : Hid (Blk (w5.setCell ⟨cb, 7, none⟩ (.slice (some ⟨g5, 0, none⟩) (j + 1) cap)) sb 48 (stQ (some ⟨ab, ao, none⟩) bd c (P + k1))) := (But.set cb 7 w5 _).blk ((HG5.out.block sb HL1.out.lt (fun e => by have := (HO1.out.lt sb e.symm).1; omega)).trans HL1.out) (by omega)
         generalize w5.setCell ⟨cb, 7, none⟩ (.slice (some ⟨g5, 0, none⟩) (j + 1) cap) = X6 at *
         clear HO1 HO2 HG5 HOW c5 f5 q2v q3v HC1 HL1 HK5 HK1 HK2 HKt1 HKt2 HB1 HB2
         go_wp2
         go_roundw
         case measure => simp [intOf]; omega
         case rel => exact ⟨j + 1, P + k1, _, _, by omega, by simp, HC6.out, HLR2.out, HLB.out, HPL2.out, HPG2.out, HK6.out⟩
        refine AllReadyH.cons (o := _) rfl (fun K hK => ?_) AllReadyH.nil
        (try simp only [gA, gB, gC])
        go_simp
        go_at_call 13
        refine (BIT1.out _).mono ?_
        rintro e t2 ⟨rfl, ht2⟩
        have HB2 : Hid (Below wr0.heap.size wr0 t2) := by rw [ht2]; exact HB1.out
        have HKt2 : Hid (Kp [sb, cb] W1 t2) := by rw [ht2]; exact HKt1.out
        have q2' : t2.cell? ⟨cb, 7, none⟩ = some v3 := by rw [ht2]; exact q1'
        clear ht2
        go_wp2_with fail
        refine hK.out _ _ (by exact KS.out _ HKt2.out) (fun hHeld7 => ?_)
        clear hK K
        (try simp only [Act.put]); (try simp only [sA]); (try simp only [sB, sC])
        refine wpAnyH_ready (rs := [1, 6]) (by kernel_rfl) (by simp) ?_
        refine AllReadyH.cons (o := _) rfl (fun K hK => ?_) ?_
        ·(try simp only [gA, gB, gC])
         go_simp
         refine hK.out _ _ (by first | exact KS.out _ HK2.out | exact KS.out _ HK1.out | exact KS.out _ HKt2.out | exact KS.out _ HKt1.out | exact KS.out _ HKD.out) (fun hHeld4 => ?_)
         clear hK K
         (try simp only [Act.put]); (try simp only [sA]); (try simp only [sB, sC])
         refine wpAnyH_ready (rs := [6]) (by kernel_rfl) (by simp) ?_
         refine AllReadyH.cons (o := _) rfl (fun K hK => ?_) AllReadyH.nil
         (try simp only [gA, gB, gC])
         go_simp
         go_at_call 21
         refine (TK2.out t2 HB2.out).mono ?_
         rintro e v ⟨rfl, h1', h2'⟩
         have HK1 : Hid (Kp [sb, cb] W1 v) := HKt2.out.trans (h1'.kp (by simp))
         have HC1 : Hid (CbAt base v cb sh v1' v2 v3 cols regs outs) := (HCB.out.kp (gs := [sb]) (Below.kp HB2.out) (by simp; omega) (by intro g hg; simp at hg; left; omega)).but h1' (by omega) (by omega)
         have HL1 := hidden h2'
         have HO1 : Hid (v.ownsRow base 3 1 v3 j (outs.map intV)) := by have := HC1.out.o3; rwa [HLR.out] at this
         have HO2 := hidden (HO1.out.alloc (.cells #[.int .i64 (xs : Int)] 3))
         have HZ2w : Hid (base ≤ (v.alloc (.cells #[.int .i64 (xs : Int)] 3)).heap.size) := by have := HK1.out.size; show base ≤ _; simp; omega
         have q2v : v.cell? ⟨cb, 7, none⟩ = some v3 := HC1.out.box.cell rfl
         have HK2 : Hid (Kp [sb, cb] W1 (v.alloc (.cells #[.int .i64 (xs : Int)] 3))) := HK1.out.trans (Below.kp ((Below.refl _ _).alloc (Nat.le_refl _) _))
         have q3v : (v.alloc (.cells #[.int .i64 (xs : Int)] 3)).cell? ⟨cb, 7, none⟩ = some v3 := (HC1.out.box.below ((Below.refl _ _).alloc (Nat.le_refl _) _)).cell rfl
         clear h1' h2' 
         go_wp2_with fail
         refine hK.out _ _ (by exact KS.out _ HK1.out) (fun hHeld8 => ?_)
         clear hK K
         (try simp only [Act.put]); (try simp only [sA]); (try simp only [sB, sC])
         refine wpAnyH_ready (rs := [7]) (by kernel_rfl) (by simp) ?_
         refine AllReadyH.cons (o := _) rfl (fun K hK => ?_) AllReadyH.nil
         (try simp only [gA, gB, gC])
         go_simp
         refine hK.out _ _ (by exact KS.out _ HK2.out) (fun hHeld10 => ?_)
         clear hK K
         (try simp only [Act.put]); (try simp only [sA]); (try simp only [sB, sC])
         refine wpAnyH_ready (rs := [8]) (by kernel_rfl) (by simp) ?_
         refine AllReadyH.cons (o := _) rfl (fun K hK => ?_) AllReadyH.nil
         refine step_append_lies _ rfl (.tmp 154) (.tmp 160) 30 rfl base 3 i3 _ 1 8 Tryd.underlying30 HI3.out HZ3i.out HS3.out HY3.out rfl (by decide) v3 j _ rfl HO2.out ⟨v.heap.size, 0, none⟩ 1 1 [.int .i64 (xs : Int)] rfl rfl (World.news_of_block (heap_new _ _)) (by simp [Value.oneCell']) (by decide) hm1 hm2 HZ2w.out _ rfl ?_
         intro g5 cap w5 hown hgrow hat hlt5
         have HG5 : Hid (v.grownBy w5 v3.ownBlock) := grown_trans (World.grownBy_alloc _ _ _) hgrow
         have HOW := hidden hown
         have HK5 : Hid (Kp [sb, cb] W1 w5) := HK1.out.grow HG5.out (fun k hk => by have := (HO1.out.lt k hk).1; omega)
         have hB5 : Blk w5 cb 32 _ := (HG5.out.block cb HC1.out.box.lt (fun e => by have := (HO1.out.lt cb e.symm).1; have := HC1.out.lt; omega)).trans HC1.out.box
         have c5 : w5.cell? ⟨cb, 7, none⟩ = some v3 := hB5.cell rfl
         have f5 := hB5.frozen 7
         clear hown hgrow hat hlt5 hB5
         have HK6 : Hid (Kp [sb, cb] W1 (w5.setCell ⟨cb, 7, none⟩ (.slice (some ⟨g5, 0, none⟩) (j + 1) cap))) := HK5.out.trans (Kp.set _ _ _ _ _ (by simp))
         refine hK.out _ _ (by exact KS.out _ HK5.out) (fun hHeld11 => ?_)
         clear hK K
         (try simp only [Act.put]); (try simp only [sA]); (try simp only [sB, sC])
         refine tk 9 ?_
         refine wpAnyH_ready (rs := [10]) (by kernel_rfl) (by simp) ?_
         refine AllReadyH.cons (o := _) rfl (fun K hK => ?_) AllReadyH.nil
         (try simp only [gA, gB, gC])
         go_simp
         refine hK.out _ _ (by exact KS.out _ HK6.out) (fun hHeld14 => ?_)
         clear hK K
         (try simp only [Act.put]); (try simp only [sA]); (try simp only [sB, sC])
         refine wpAnyH_done (by kernel_rfl) ?_ _
         refine NoPanic.normal ?_
         have HC6 : Hid (CbAt base (w5.setCell ⟨cb, 7, none⟩ (.slice (some ⟨g5, 0, none⟩) (j + 1) cap)) cb sh v1' v2 (.slice (some ⟨g5, 0, none⟩) (j + 1) cap) cols regs (outs ++ [(xs : Int)])) := HC1.out.push3 (x := (xs : Int)) (u := .slice (some ⟨g5, 0, none⟩) (j + 1) cap) (by rw [HLR.out]; exact HOW.out) HG5.out
         have HLB : Hid (Blk (w5.setCell ⟨cb, 7, none⟩ (.slice (some ⟨g5, 0, none⟩) (j + 1) cap)) sb 48 (stQ (some ⟨ab, ao, none⟩) bd c (P + k1))) := (But.set cb 7 w5 _).blk ((HG5.out.block sb HL1.out.lt (fun e => by have := (HO1.out.lt sb e.symm).1; omega)).trans HL1.out) (by omega)
         generalize w5.setCell ⟨cb, 7, none⟩ (.slice (some ⟨g5, 0, none⟩) (j + 1) cap) = X6 at *
         clear HO1 HO2 HG5 HOW c5 f5 q2v q3v HC1 HL1 HK5 HK1 HK2 HKt1 HKt2 HB1 HB2
         go_wp2
         go_roundw
         case measure => simp [intOf]; omega
         case rel => exact ⟨j + 1, P + k1, _, _, by omega, by simp, HC6.out, HLR2.out, HLB.out, HPL2.out, HPG2.out, HK6.out⟩
        refine AllReadyH.cons (o := _) rfl (fun K hK => ?_) AllReadyH.nil
        (try simp only [gA, gB, gC])
        go_simp
        go_at_call 21
        refine (TK2.out t2 HB2.out).mono ?_
        rintro e v ⟨rfl, h1', h2'⟩
        have HK1 : Hid (Kp [sb, cb] W1 v) := HKt2.out.trans (h1'.kp (by simp))
        have HC1 : Hid (CbAt base v cb sh v1' v2 v3 cols regs outs) := (HCB.out.kp (gs := [sb]) (Below.kp HB2.out) (by simp; omega) (by intro g hg; simp at hg; left; omega)).but h1' (by omega) (by omega)
        have HL1 := hidden h2'
        have HO1 : Hid (v.ownsRow base 3 1 v3 j (outs.map intV)) := by have := HC1.out.o3; rwa [HLR.out] at this
        have HO2 := hidden (HO1.out.alloc (.cells #[.int .i64 (xs : Int)] 3))
        have HZ2w : Hid (base ≤ (v.alloc (.cells #[.int .i64 (xs : Int)] 3)).heap.size) := by have := HK1.out.size; show base ≤ _; simp; omega
        have q2v : v.cell? ⟨cb, 7, none⟩ = some v3 := HC1.out.box.cell rfl
        have HK2 : Hid (Kp [sb, cb] W1 (v.alloc (.cells #[.int .i64 (xs : Int)] 3))) := HK1.out.trans (Below.kp ((Below.refl _ _).alloc (Nat.le_refl _) _))
        have q3v : (v.alloc (.cells #[.int .i64 (xs : Int)] 3)).cell? ⟨cb, 7, none⟩ = some v3 := (HC1.out.box.below ((Below.refl _ _).alloc (Nat.le_refl _) _)).cell rfl
        clear h1' h2' 
        go_wp2_with fail
        refine hK.out _ _ (by exact KS.out _ HK1.out) (fun hHeld8 => ?_)
        clear hK K
        (try simp only [Act.put]); (try simp only [sA]); (try simp only [sB, sC])
        refine wpAnyH_ready (rs := [1, 7]) (by kernel_rfl) (by simp) ?_
        refine AllReadyH.cons (o := _) rfl (fun K hK => ?_) ?_
        ·(try simp only [gA, gB, gC])
         go_simp
         refine hK.out _ _ (by first | exact KS.out _ HK2.out | exact KS.out _ HK1.out | exact KS.out _ HKt2.out | exact KS.out _ HKt1.out | exact KS.out _ HKD.out) (fun hHeld4 => ?_)
         clear hK K
         (try simp only [Act.put]); (try simp only [sA]); (try simp only [sB, sC])
         refine wpAnyH_ready (rs := [7]) (by kernel_rfl) (by simp) ?_
         refine AllReadyH.cons (o := _) rfl (fun K hK => ?_) AllReadyH.nil
         (try simp only [gA, gB, gC])
         go_simp
         refine hK.out _ _ (by exact KS.out _ HK2.out) (fun hHeld10 => ?_)
         clear hK K
         (try simp only [Act.put]); (try simp only [sA]); (try simp only [sB, sC])
         refine wpAnyH_ready (rs := [8]) (by kernel_rfl) (by simp) ?_
         refine AllReadyH.cons (o := _) rfl (fun K hK => ?_) AllReadyH.nil
         refine step_append_lies _ rfl (.tmp 154) (.tmp 160) 30 rfl base 3 i3 _ 1 8 Tryd.underlying30 HI3.out HZ3i.out HS3.out HY3.out rfl (by decide) v3 j _ rfl HO2.out ⟨v.heap.size, 0, none⟩ 1 1 [.int .i64 (xs : Int)] rfl rfl (World.news_of_block (heap_new _ _)) (by simp [Value.oneCell']) (by decide) hm1 hm2 HZ2w.out _ rfl ?_
         intro g5 cap w5 hown hgrow hat hlt5
         have HG5 : Hid (v.grownBy w5 v3.ownBlock) := grown_trans (World.grownBy_alloc _ _ _) hgrow
         have HOW := hidden hown
         have HK5 : Hid (Kp [sb, cb] W1 w5) := HK1.out.grow HG5.out (fun k hk => by have := (HO1.out.lt k hk).1; omega)
         have hB5 : Blk w5 cb 32 _ := (HG5.out.block cb HC1.out.box.lt (fun e => by have := (HO1.out.lt cb e.symm).1; have := HC1.out.lt; omega)).trans HC1.out.box
         have c5 : w5.cell? ⟨cb, 7, none⟩ = some v3 := hB5.cell rfl
         have f5 := hB5.frozen 7
         clear hown hgrow hat hlt5 hB5
         have HK6 : Hid (Kp [sb, cb] W1 (w5.setCell ⟨cb, 7, none⟩ (.slice (some ⟨g5, 0, none⟩) (j + 1) cap))) := HK5.out.trans (Kp.set _ _ _ _ _ (by simp))
         refine hK.out _ _ (by exact KS.out _ HK5.out) (fun hHeld11 => ?_)
         clear hK K
         (try simp only [Act.put]); (try simp only [sA]); (try simp only [sB, sC])
         refine tk 9 ?_
         refine wpAnyH_ready (rs := [10]) (by kernel_rfl) (by simp) ?_
         refine AllReadyH.cons (o := _) rfl (fun K hK => ?_) AllReadyH.nil
         (try simp only [gA, gB, gC])
         go_simp
         refine hK.out _ _ (by exact KS.out _ HK6.out) (fun hHeld14 => ?_)
         clear hK K
         (try simp only [Act.put]); (try simp only [sA]); (try simp only [sB, sC])
         refine wpAnyH_done (by kernel_rfl) ?_ _
         refine NoPanic.normal ?_
         have HC6 : Hid (CbAt base (w5.setCell ⟨cb, 7, none⟩ (.slice (some ⟨g5, 0, none⟩) (j + 1) cap)) cb sh v1' v2 (.slice (some ⟨g5, 0, none⟩) (j + 1) cap) cols regs (outs ++ [(xs : Int)])) := HC1.out.push3 (x := (xs : Int)) (u := .slice (some ⟨g5, 0, none⟩) (j + 1) cap) (by rw [HLR.out]; exact HOW.out) HG5.out
         have HLB : Hid (Blk (w5.setCell ⟨cb, 7, none⟩ (.slice (some ⟨g5, 0, none⟩) (j + 1) cap)) sb 48 (stQ (some ⟨ab, ao, none⟩) bd c (P + k1))) := (But.set cb 7 w5 _).blk ((HG5.out.block sb HL1.out.lt (fun e => by have := (HO1.out.lt sb e.symm).1; omega)).trans HL1.out) (by omega)
         generalize w5.setCell ⟨cb, 7, none⟩ (.slice (some ⟨g5, 0, none⟩) (j + 1) cap) = X6 at *
         clear HO1 HO2 HG5 HOW c5 f5 q2v q3v HC1 HL1 HK5 HK1 HK2 HKt1 HKt2 HB1 HB2
         go_wp2
         go_roundw
         case measure => simp [intOf]; omega
         case rel => exact ⟨j + 1, P + k1, _, _, by omega, by simp, HC6.out, HLR2.out, HLB.out, HPL2.out, HPG2.out, HK6.out⟩
        refine AllReadyH.cons (o := _) rfl (fun K hK => ?_) AllReadyH.nil
        (try simp only [gA, gB, gC])
        go_simp
        refine hK.out _ _ (by exact KS.out _ HK2.out) (fun hHeld10 => ?_)
        clear hK K
        (try simp only [Act.put]); (try simp only [sA]); (try simp only [sB, sC])
        refine wpAnyH_ready (rs := [1]) (by kernel_rfl) (by simp) ?_
        refine AllReadyH.cons (o := _) rfl (fun K hK => ?_) AllReadyH.nil
        (try simp only [gA, gB, gC])
        go_simp
        refine hK.out _ _ (by first | exact KS.out _ HK2.out | exact KS.out _ HK1.out | exact KS.out _ HKt2.out | exact KS.out _ HKt1.out | exact KS.out _ HKD.out) (fun hHeld4 => ?_)
        clear hK K
        (try simp only [Act.put]); (try simp only [sA]); (try simp only [sB, sC])
        refine wpAnyH_ready (rs := [8]) (by kernel_rfl) (by simp) ?_
        refine AllReadyH.cons (o := _) rfl (fun K hK => ?_) AllReadyH.nil
        refine step_append_lies _ rfl (.tmp 154) (.tmp 160) 30 rfl base 3 i3 _ 1 8 Tryd.underlying30 HI3.out HZ3i.out HS3.out HY3.out rfl (by decide) v3 j _ rfl HO2.out ⟨v.heap.size, 0, none⟩ 1 1 [.int .i64 (xs : Int)] rfl rfl (World.news_of_block (heap_new _ _)) (by simp [Value.oneCell']) (by decide) hm1 hm2 HZ2w.out _ rfl ?_
        intro g5 cap w5 hown hgrow hat hlt5
        have HG5 : Hid (v.grownBy w5 v3.ownBlock) := grown_trans (World.grownBy_alloc _ _ _) hgrow
        have HOW := hidden hown
        have HK5 : Hid (Kp [sb, cb] W1 w5) := HK1.out.grow HG5.out (fun k hk => by have := (HO1.out.lt k hk).1; omega)
        have hB5 : Blk w5 cb 32 _ := (HG5.out.block cb HC1.out.box.lt (fun e => by have := (HO1.out.lt cb e.symm).1; have := HC1.out.lt; omega)).trans HC1.out.box
        have c5 : w5.cell? ⟨cb, 7, none⟩ = some v3 := hB5.cell rfl
        have f5 := hB5.frozen 7
        clear hown hgrow hat hlt5 hB5
        have HK6 : Hid (Kp [sb, cb] W1 (w5.setCell ⟨cb, 7, none⟩ (.slice (some ⟨g5, 0, none⟩) (j + 1) cap))) := HK5.out.trans (Kp.set _ _ _ _ _ (by simp))
        refine hK.out _ _ (by exact KS.out _ HK5.out) (fun hHeld11 => ?_)
        clear hK K
        (try simp only [Act.put]); (try simp only [sA]); (try simp only [sB, sC])
        refine tk 9 ?_
        refine wpAnyH_ready (rs := [10]) (by kernel_rfl) (by simp) ?_
        refine AllReadyH.cons (o := _) rfl (fun K hK => ?_) AllReadyH.nil
        (try simp only [gA, gB, gC])
        go_simp
        refine hK.out _ _ (by exact KS.out _ HK6.out) (fun hHeld14 => ?_)
        clear hK K
        (try simp only [Act.put]); (try simp only [sA]); (try simp only [sB, sC])
        refine wpAnyH_done (by kernel_rfl) ?_ _
        refine NoPanic.normal ?_
        have HC6 : Hid (CbAt base (w5.setCell ⟨cb, 7, none⟩ (.slice (some ⟨g5, 0, none⟩) (j + 1) cap)) cb sh v1' v2 (.slice (some ⟨g5, 0, none⟩) (j + 1) cap) cols regs (outs ++ [(xs : Int)])) := HC1.out.push3 (x := (xs : Int)) (u := .slice (some ⟨g5, 0, none⟩) (j + 1) cap) (by rw [HLR.out]; exact HOW.out) HG5.out
        have HLB : Hid (Blk (w5.setCell ⟨cb, 7, none⟩ (.slice (some ⟨g5, 0, none⟩) (j + 1) cap)) sb 48 (stQ (some ⟨ab, ao, none⟩) bd c (P + k1))) := (But.set cb 7 w5 _).blk ((HG5.out.block sb HL1.out.lt (fun e => by have := (HO1.out.lt sb e.symm).1; omega)).trans HL1.out) (by omega)
        generalize w5.setCell ⟨cb, 7, none⟩ (.slice (some ⟨g5, 0, none⟩) (j + 1) cap) = X6 at *
        clear HO1 HO2 HG5 HOW c5 f5 q2v q3v HC1 HL1 HK5 HK1 HK2 HKt1 HKt2 HB1 HB2
        go_wp2
        go_roundw
        case measure => simp [intOf]; omega
        case rel => exact ⟨j + 1, P + k1, _, _, by omega, by simp, HC6.out, HLR2.out, HLB.out, HPL2.out, HPG2.out, HK6.out⟩
       ·have hge : ¬ ((j : Int) < (z1 : Int)) := by omega
        have hj2 : j = z1 := by omega
        obtain ⟨EP, hEP⟩ : ∃ p, p = OP + z1 * k1 := ⟨_, rfl⟩
        have hPL := HPL.out
        rw [hj2, ← hEP] at hPL
        have HPG1 : Hid (P ≤ 8 * n → P = 32 + EP ∧ SpecN nm ⟨sh, cols, regs, outs⟩) := by
         intro hle
         obtain ⟨e1, e2, e3, e4⟩ := HPG.out hle
         rw [hj2] at e1 e2
         refine ⟨by rw [hEP]; exact e1, ⟨HSHS.out, ?_, ?_, ?_⟩⟩
         ·show cols.map ClD.cs = _
          rw [e4]
          unfold colsS k0S k1S
          rw [← HNN.out 64, ← HNN.out 48, ← HNN.out 0, ← HNN.out 32, ← HZE0.out, ← HZE2.out, ← HZE3.out, ← HZE4.out, HW0.out, HW1.out]
         ·show regs = _
          rw [e3]
          unfold regsS regPS k0S k1S
          rw [← HNN.out 64, ← HNN.out 48, ← HNN.out 0, ← HNN.out 32, ← HZE0.out, ← HZE2.out, ← HZE3.out, ← HZE4.out, HW0.out, HW1.out, ← HRPE.out]
         ·show outs = _
          rw [e2]
          unfold outsS outPS regPS k0S k1S
          rw [← HNN.out 64, ← HNN.out 48, ← HNN.out 0, ← HNN.out 16, ← HNN.out 32, ← HZE0.out, ← HZE1.out, ← HZE2.out, ← HZE3.out, ← HZE4.out, HW0.out, HW1.out, ← HRPE.out, ← HOPE.out]
        have HEPE : Hid (endPS nm = EP) := by
         show _ = _
         unfold endPS outPS regPS k0S k1S
         rw [← HNN.out 64, ← HNN.out 48, ← HNN.out 0, ← HNN.out 16, ← HNN.out 32, ← HZE0.out, ← HZE1.out, ← HZE2.out, ← HZE3.out, ← HZE4.out, HW0.out, HW1.out, ← HRPE.out, ← HOPE.out, hEP]
        rw [HEPE.out] at HGOK
        have HOL : Hid (outs.length ≤ 500) := by show _ ≤ _; rw [HLR.out]; omega
        have hbg : ∀ m : Nat, m ≤ 500 → m < big := fun m hm => by unfold big; omega
        obtain ⟨S0, hS0, hC0⟩ := HCB.out.cn (hbg _ (by have := HLC2.out.1; omega)) (fun d hd => hbg _ (HLC2.out.2 d hd)) (hbg _ (by rw [HRL2.out]; omega)) (hbg _ HOL.out)
        have CVC : Hid (Calls Tryd.prog 23 #[.agg (cfA sh v1' v2 v3)] wr fun e w' => e = .returned (.bool (CnOk ⟨sh, cols, regs, outs⟩)) ∧ Below wr.heap.size wr w') := by rw [hS0]; exact configValid_any wr.heap.size wr S0 _ hC0 (Nat.le_refl _)
        have HBGH := hidden hbg
        clear hbg hS0 hC0 HPL HPG hEP hj2 hj hlt
        unfold cfA at CVC
        have e0 : wr.cell? ⟨cb, 0, none⟩ = some (.int .i64 sh.ins) := HCB.out.box.cell rfl
        have e1 : wr.cell? ⟨cb, 1, none⟩ = some (.int .i64 sh.outs) := HCB.out.box.cell rfl
        have e2 : wr.cell? ⟨cb, 2, none⟩ = some (.int .i64 sh.regs) := HCB.out.box.cell rfl
        have e3 : wr.cell? ⟨cb, 3, none⟩ = some (.int .i64 sh.rows) := HCB.out.box.cell rfl
        have e4 : wr.cell? ⟨cb, 4, none⟩ = some (.int .i64 sh.cols) := HCB.out.box.cell rfl
        have e5 : wr.cell? ⟨cb, 5, none⟩ = some (v1') := HCB.out.box.cell rfl
        have e6 : wr.cell? ⟨cb, 6, none⟩ = some (v2) := HCB.out.box.cell rfl
        have e7 : wr.cell? ⟨cb, 7, none⟩ = some (v3) := HCB.out.box.cell rfl
        go_wp2_with fail
        go_at_call 23
        refine CVC.out.mono ?_
        rintro e t1 ⟨rfl, hb1⟩
        have HB1 : Hid (Below wr.heap.size wr t1) := hb1
        have HKt : Hid (Kp [sb, cb] W1 t1) := HKW.out.trans (Below.kp hb1)
        have HCt : Hid (CbAt base t1 cb sh v1' v2 v3 cols regs outs) := HCB.out.kp (gs := [sb]) (Below.kp hb1) (by simp; omega) (by intro g hg; simp at hg; left; omega)
        have HSt : Hid (Blk t1 sb 48 (stQ (some ⟨ab, ao, none⟩) bd c P)) := HSB.out.below hb1
        clear hb1 CVC e0 e1 e2 e3 e4 e5 e6 e7 y1 HCB HSB HKW HB1
        have HZ0t : Hid (Blk t1 h0 32 zeroA) := HKt.out.blk HZ0.out (by simp; omega)
        have HZ1t : Hid (Blk t1 h1 40 #[.int .i64 0, .int .i64 0]) := HKt.out.blk HZ1.out (by simp; omega)
        have HZ2t : Hid (Blk t1 h2 40 #[.int .i64 18, .int .i64 0]) := HKt.out.blk HZ2.out (by simp; omega)
        have HBt : Hid (Below w.heap.size w t1) := HBW.out.trans (HKt.out.below (by intro g hg; simp at hg; omega) HBW.out.size)
        have so : t1.cell? ⟨sb, 3, none⟩ = some (.bool (decide (8 * bd.length < P))) := HSt.out.cell rfl
        rw [HBDL.out] at so
        go_wp2_with fail
        by_cases hov : 8 * n < P
        ·have hov2 : decide (8 * n < P) = true := decide_eq_true hov
         rw [hov2] at so
         have HGK : Hid (gOk bs = false) := by
          show _ = _
          rw [HGOK.out, endBad_over bt EP _ (by have := HBTL.out; omega)]
          rfl
         clear hov2
         refine wp_region_noPanic ?_
         refine wp_region_held_drew (S := (fun w' => w'.cell? ⟨sb, 3, none⟩ = some (.bool true))) (by kernel_rfl) (by exact so) (fun hHeld => ?_)
         refine tk 0 ?_
         refine tk 1 ?_
         refine tk 2 ?_
         refine tk 3 ?_
         refine tk 4 ?_
         refine tu 5 ?_
         refine tu 6 ?_
         refine tk 7 ?_
         refine tk 8 ?_
         refine tu 9 ?_
         refine tu 10 ?_
         refine tu 11 ?_
         refine tu 12 ?_
         refine tu 13 ?_
         refine tu 14 ?_
         refine tk 15 ?_
         refine wpAnyH_done (by kernel_rfl) ?_ _
         refine NoPanic.normal ?_
         clear so hHeld
         obtain ⟨t1d, ht1d⟩ : ∃ x, x = t1.drew := ⟨_, rfl⟩
         rw [← ht1d]
         have HZ0' : Hid (Blk t1d h0 32 zeroA) := by rw [ht1d]; exact HZ0t.out.drewN 1
         have HZ1' : Hid (Blk t1d h1 40 #[.int .i64 0, .int .i64 0]) := by rw [ht1d]; exact HZ1t.out.drewN 1
         have HZ2' : Hid (Blk t1d h2 40 #[.int .i64 18, .int .i64 0]) := by rw [ht1d]; exact HZ2t.out.drewN 1
         have HBX : Hid (Below w.heap.size w t1d) := by rw [ht1d]; exact Below.drew HBt.out
         clear HZ0 HZ1 HZ2 HZ0t HZ1t HZ2t
         have HZ0 := HZ0'
         have HZ1 := HZ1'
         have HZ2 := HZ2'
         clear HZ0' HZ1' HZ2'
         clear ht1d
         go_wp2_with fail
         obtain ⟨wd, hwd⟩ : ∃ x, x = t1d.drew := ⟨_, rfl⟩
         have HD0 : Hid (Blk wd h0 32 zeroA) := by rw [hwd]; exact HZ0.out.drewN 1
         have HD1 : Hid (Blk wd h1 40 #[.int .i64 0, .int .i64 0]) := by rw [hwd]; exact HZ1.out.drewN 1
         have HD2 : Hid (Blk wd h2 40 #[.int .i64 18, .int .i64 0]) := by rw [hwd]; exact HZ2.out.drewN 1
         have HBD : Hid (Below w.heap.size w wd) := by rw [hwd]; exact Below.drew HBX.out
         have HR0 : Hid (Blk (World.setCell (World.setCell (World.setCell (World.setCell (World.setCell (World.setCell (World.setCell (World.setCell wd ⟨h0, 0, none⟩ (.int .i64 0)) ⟨h0, 1, none⟩ (.int .i64 0)) ⟨h0, 2, none⟩ (.int .i64 0)) ⟨h0, 3, none⟩ (.int .i64 0)) ⟨h0, 4, none⟩ (.int .i64 0)) ⟨h0, 5, none⟩ (.slice none 0 0)) ⟨h0, 6, none⟩ (.slice none 0 0)) ⟨h0, 7, none⟩ (.slice none 0 0)) h0 32 zeroA) := (Blk.set (Blk.set (Blk.set (Blk.set (Blk.set (Blk.set (Blk.set (Blk.set HD0.out 0 _) 1 _) 2 _) 3 _) 4 _) 5 _) 6 _) 7 _)
         have HA1 : Hid (Blk (World.setCell (World.setCell (World.setCell (World.setCell (World.setCell (World.setCell (World.setCell (World.setCell wd ⟨h0, 0, none⟩ (.int .i64 0)) ⟨h0, 1, none⟩ (.int .i64 0)) ⟨h0, 2, none⟩ (.int .i64 0)) ⟨h0, 3, none⟩ (.int .i64 0)) ⟨h0, 4, none⟩ (.int .i64 0)) ⟨h0, 5, none⟩ (.slice none 0 0)) ⟨h0, 6, none⟩ (.slice none 0 0)) ⟨h0, 7, none⟩ (.slice none 0 0)) h1 40 #[.int .i64 0, .int .i64 0]) := (But.blk (But.set h0 7 _ _) (But.blk (But.set h0 6 _ _) (But.blk (But.set h0 5 _ _) (But.blk (But.set h0 4 _ _) (But.blk (But.set h0 3 _ _) (But.blk (But.set h0 2 _ _) (But.blk (But.set h0 1 _ _) (But.blk (But.set h0 0 _ _) HD1.out (by omega)) (by omega)) (by omega)) (by omega)) (by omega)) (by omega)) (by omega)) (by omega))
         have HA2 : Hid (Blk (World.setCell (World.setCell (World.setCell (World.setCell (World.setCell (World.setCell (World.setCell (World.setCell wd ⟨h0, 0, none⟩ (.int .i64 0)) ⟨h0, 1, none⟩ (.int .i64 0)) ⟨h0, 2, none⟩ (.int .i64 0)) ⟨h0, 3, none⟩ (.int .i64 0)) ⟨h0, 4, none⟩ (.int .i64 0)) ⟨h0, 5, none⟩ (.slice none 0 0)) ⟨h0, 6, none⟩ (.slice none 0 0)) ⟨h0, 7, none⟩ (.slice none 0 0)) h2 40 #[.int .i64 18, .int .i64 0]) := (But.blk (But.set h0 7 _ _) (But.blk (But.set h0 6 _ _) (But.blk (But.set h0 5 _ _) (But.blk (But.set h0 4 _ _) (But.blk (But.set h0 3 _ _) (But.blk (But.set h0 2 _ _) (But.blk (But.set h0 1 _ _) (But.blk (But.set h0 0 _ _) HD2.out (by omega)) (by omega)) (by omega)) (by omega)) (by omega)) (by omega)) (by omega)) (by omega))
         have HK0 : Hid (Kp [h0, h1] wd (World.setCell (World.setCell (World.setCell (World.setCell (World.setCell (World.setCell (World.setCell (World.setCell wd ⟨h0, 0, none⟩ (.int .i64 0)) ⟨h0, 1, none⟩ (.int .i64 0)) ⟨h0, 2, none⟩ (.int .i64 0)) ⟨h0, 3, none⟩ (.int .i64 0)) ⟨h0, 4, none⟩ (.int .i64 0)) ⟨h0, 5, none⟩ (.slice none 0 0)) ⟨h0, 6, none⟩ (.slice none 0 0)) ⟨h0, 7, none⟩ (.slice none 0 0))) := (((((((((Kp.refl [h0, h1] wd).trans (Kp.set _ _ 0 _ _ (by simp))).trans (Kp.set _ _ 1 _ _ (by simp))).trans (Kp.set _ _ 2 _ _ (by simp))).trans (Kp.set _ _ 3 _ _ (by simp))).trans (Kp.set _ _ 4 _ _ (by simp))).trans (Kp.set _ _ 5 _ _ (by simp))).trans (Kp.set _ _ 6 _ _ (by simp))).trans (Kp.set _ _ 7 _ _ (by simp)))
         have r0 : wd.cell? ⟨h0, 0, none⟩ = some (.int .i64 0) := HD0.out.cell rfl
         have rf0 := HD0.out.frozen 0
         have r1 : wd.cell? ⟨h0, 1, none⟩ = some (.int .i64 0) := HD0.out.cell rfl
         have rf1 := HD0.out.frozen 1
         have r2 : wd.cell? ⟨h0, 2, none⟩ = some (.int .i64 0) := HD0.out.cell rfl
         have rf2 := HD0.out.frozen 2
         have r3 : wd.cell? ⟨h0, 3, none⟩ = some (.int .i64 0) := HD0.out.cell rfl
         have rf3 := HD0.out.frozen 3
         have r4 : wd.cell? ⟨h0, 4, none⟩ = some (.int .i64 0) := HD0.out.cell rfl
         have rf4 := HD0.out.frozen 4
         have r5 : wd.cell? ⟨h0, 5, none⟩ = some (.slice none 0 0) := HD0.out.cell rfl
         have rf5 := HD0.out.frozen 5
         have r6 : wd.cell? ⟨h0, 6, none⟩ = some (.slice none 0 0) := HD0.out.cell rfl
         have rf6 := HD0.out.frozen 6
         have r7 : wd.cell? ⟨h0, 7, none⟩ = some (.slice none 0 0) := HD0.out.cell rfl
         have rf7 := HD0.out.frozen 7
         have KS : Hid (∀ w', Blk w' h2 40 #[.int .i64 18, .int .i64 0] → (fun w' => w'.cell? ⟨h2, 0, none⟩ = some (.int .i64 18) ∧ w'.cell? ⟨h2, 1, none⟩ = some (.int .i64 0)) w') := fun w' hw' => ⟨hw'.cell rfl, hw'.cell rfl⟩
         refine wp_region_noPanic ?_
         refine wp_region_held_drew (S := (fun w' => w'.cell? ⟨h2, 0, none⟩ = some (.int .i64 18) ∧ w'.cell? ⟨h2, 1, none⟩ = some (.int .i64 0))) (by kernel_rfl) (by exact KS.out _ (by rw [← hwd]; exact HD2.out)) (fun hHeld => ?_)
         rw [← hwd] at hHeld ⊢
         clear hwd
         refine tk 0 ?_
         refine tk 1 ?_
         refine wpAnyH_ready (rs := [2]) (by kernel_rfl) (by simp) ?_
         refine AllReadyH.cons (o := _) rfl (fun K hK => ?_) AllReadyH.nil
         (try simp only [gA, gB, gC])
         go_simp
         refine hK.out _ _ (by exact KS.out _ HA2.out) (fun hHeld1 => ?_)
         clear hK K
         clear r0 rf0 r1 rf1 r2 rf2 r3 rf3 r4 rf4 r5 rf5 r6 rf6 r7 rf7 hHeld
         generalize (World.setCell (World.setCell (World.setCell (World.setCell (World.setCell (World.setCell (World.setCell (World.setCell wd ⟨h0, 0, none⟩ (.int .i64 0)) ⟨h0, 1, none⟩ (.int .i64 0)) ⟨h0, 2, none⟩ (.int .i64 0)) ⟨h0, 3, none⟩ (.int .i64 0)) ⟨h0, 4, none⟩ (.int .i64 0)) ⟨h0, 5, none⟩ (.slice none 0 0)) ⟨h0, 6, none⟩ (.slice none 0 0)) ⟨h0, 7, none⟩ (.slice none 0 0)) = Y at *
         clear HD0 HD1 HD2
         have HR1 : Hid (Blk (World.setCell (World.setCell Y ⟨h1, 0, none⟩ (.int .i64 18)) ⟨h1, 1, none⟩ (.int .i64 0)) h1 40 #[.int .i64 18, .int .i64 0]) := (HA1.out.set 0 _).set 1 _
         have HR2 : Hid (Blk (World.setCell (World.setCell Y ⟨h1, 0, none⟩ (.int .i64 18)) ⟨h1, 1, none⟩ (.int .i64 0)) h0 32 zeroA) := (But.set h1 1 _ _).blk ((But.set h1 0 _ _).blk HR0.out (by omega)) (by omega)
         have HR3 : Hid (Blk (World.setCell (World.setCell Y ⟨h1, 0, none⟩ (.int .i64 18)) ⟨h1, 1, none⟩ (.int .i64 0)) h2 40 #[.int .i64 18, .int .i64 0]) := (But.set h1 1 _ _).blk ((But.set h1 0 _ _).blk HA2.out (by omega)) (by omega)
         have HK1 : Hid (Kp [h0, h1] wd (World.setCell (World.setCell Y ⟨h1, 0, none⟩ (.int .i64 18)) ⟨h1, 1, none⟩ (.int .i64 0))) := (HK0.out.trans (Kp.set _ _ _ _ _ (by simp))).trans (Kp.set _ _ _ _ _ (by simp))
         have s0 : Y.cell? ⟨h1, 0, none⟩ = some (.int .i64 0) := HA1.out.cell rfl
         have sf0 := HA1.out.frozen 0
         have s1 : Y.cell? ⟨h1, 1, none⟩ = some (.int .i64 0) := HA1.out.cell rfl
         have sf1 := HA1.out.frozen 1
         (try simp only [Act.put]); (try simp only [sA]); (try simp only [sB, sC])
         refine wpAnyH_ready (rs := [3]) (by kernel_rfl) (by simp) ?_
         refine AllReadyH.cons (o := _) rfl (fun K hK => ?_) AllReadyH.nil
         (try simp only [gA, gB, gC])
         go_simp
         refine hK.out _ _ (by exact KS.out _ HR3.out) (fun hHeld2 => ?_)
         clear hK K
         (try simp only [Act.put]); (try simp only [sA]); (try simp only [sB, sC])
         refine wpAnyH_done (by kernel_rfl) ?_ _
         refine NoPanic.normal ?_
         clear s0 sf0 s1 sf1 hHeld1 hHeld2
         generalize (World.setCell (World.setCell Y ⟨h1, 0, none⟩ (.int .i64 18)) ⟨h1, 1, none⟩ (.int .i64 0)) = Z at *
         have HBZ : Hid (Below w.heap.size w Z) := HBD.out.trans (HK1.out.below (by intro g hg; simp at hg; omega) HBD.out.size)
         clear HBD HR0 HA1 HA2 HR3 HK0 HK1 KS
         have r0 : Z.cell? ⟨h0, 0, none⟩ = some (.int .i64 0) := HR2.out.cell rfl
         have r1 : Z.cell? ⟨h0, 1, none⟩ = some (.int .i64 0) := HR2.out.cell rfl
         have r2 : Z.cell? ⟨h0, 2, none⟩ = some (.int .i64 0) := HR2.out.cell rfl
         have r3 : Z.cell? ⟨h0, 3, none⟩ = some (.int .i64 0) := HR2.out.cell rfl
         have r4 : Z.cell? ⟨h0, 4, none⟩ = some (.int .i64 0) := HR2.out.cell rfl
         have r5 : Z.cell? ⟨h0, 5, none⟩ = some (.slice none 0 0) := HR2.out.cell rfl
         have r6 : Z.cell? ⟨h0, 6, none⟩ = some (.slice none 0 0) := HR2.out.cell rfl
         have r7 : Z.cell? ⟨h0, 7, none⟩ = some (.slice none 0 0) := HR2.out.cell rfl
         have s0 : Z.cell? ⟨h1, 0, none⟩ = some (.int .i64 18) := HR1.out.cell rfl
         have s1 : Z.cell? ⟨h1, 1, none⟩ = some (.int .i64 0) := HR1.out.cell rfl
         go_wp2
         refine bodyPost_ret (v := .tuple #[.agg zeroA, .agg #[.int .i64 18, .int .i64 0]]) (by unfold zeroA cfA; simp [results, Tryd.results8, go_sem, *]) rfl ?_
         exact ⟨fun h => absurd (h.symm.trans HGK.out) (by decide), fun _ => ⟨rfl, HBZ.out⟩⟩
        ·have hov2 : decide (8 * n < P) = false := decide_eq_false hov
         rw [hov2] at so
         obtain ⟨hPe, hspec⟩ := HPG1.out (by omega)
         have HSPEC := hidden hspec
         have hcn : CnOk ⟨sh, cols, regs, outs⟩ = selsOk nm := cnOk_spec hspec (by rw [← HSHS.out]; exact HOK.out)
         rw [hcn]
         clear hov2 hspec hcn
         by_cases hsl : selsOk nm = false
         ·rw [hsl]
          have HGK : Hid (gOk bs = false) := by
           show _ = _
           rw [HGOK.out, hsl]
           show (!endBad bt EP true) = false
           rw [endBad_wrong]; rfl
          clear hsl
          refine wp_region_noPanic ?_
          refine wp_region_held_drew (S := (fun w' => w'.cell? ⟨sb, 3, none⟩ = some (.bool false))) (by kernel_rfl) (by exact so) (fun hHeld => ?_)
          refine tk 0 ?_
          refine tk 1 ?_
          refine tk 2 ?_
          refine tk 3 ?_
          refine tk 4 ?_
          refine tk 5 ?_
          refine tk 6 ?_
          refine tk 7 ?_
          refine tk 8 ?_
          refine tu 9 ?_
          refine tu 10 ?_
          refine tu 11 ?_
          refine tu 12 ?_
          refine tu 13 ?_
          refine tu 14 ?_
          refine tk 15 ?_
          refine wpAnyH_done (by kernel_rfl) ?_ _
          refine NoPanic.normal ?_
          clear so hHeld
          obtain ⟨t1d, ht1d⟩ : ∃ x, x = t1.drew := ⟨_, rfl⟩
          rw [← ht1d]
          have HZ0' : Hid (Blk t1d h0 32 zeroA) := by rw [ht1d]; exact HZ0t.out.drewN 1
          have HZ1' : Hid (Blk t1d h1 40 #[.int .i64 0, .int .i64 0]) := by rw [ht1d]; exact HZ1t.out.drewN 1
          have HZ2' : Hid (Blk t1d h2 40 #[.int .i64 18, .int .i64 0]) := by rw [ht1d]; exact HZ2t.out.drewN 1
          have HBX : Hid (Below w.heap.size w t1d) := by rw [ht1d]; exact Below.drew HBt.out
          clear HZ0 HZ1 HZ2 HZ0t HZ1t HZ2t
          have HZ0 := HZ0'
          have HZ1 := HZ1'
          have HZ2 := HZ2'
          clear HZ0' HZ1' HZ2'
          clear ht1d
          go_wp2_with fail
          obtain ⟨wd, hwd⟩ : ∃ x, x = t1d.drew := ⟨_, rfl⟩
          have HD0 : Hid (Blk wd h0 32 zeroA) := by rw [hwd]; exact HZ0.out.drewN 1
          have HD1 : Hid (Blk wd h1 40 #[.int .i64 0, .int .i64 0]) := by rw [hwd]; exact HZ1.out.drewN 1
          have HD2 : Hid (Blk wd h2 40 #[.int .i64 18, .int .i64 0]) := by rw [hwd]; exact HZ2.out.drewN 1
          have HBD : Hid (Below w.heap.size w wd) := by rw [hwd]; exact Below.drew HBX.out
          have HR0 : Hid (Blk (World.setCell (World.setCell (World.setCell (World.setCell (World.setCell (World.setCell (World.setCell (World.setCell wd ⟨h0, 0, none⟩ (.int .i64 0)) ⟨h0, 1, none⟩ (.int .i64 0)) ⟨h0, 2, none⟩ (.int .i64 0)) ⟨h0, 3, none⟩ (.int .i64 0)) ⟨h0, 4, none⟩ (.int .i64 0)) ⟨h0, 5, none⟩ (.slice none 0 0)) ⟨h0, 6, none⟩ (.slice none 0 0)) ⟨h0, 7, none⟩ (.slice none 0 0)) h0 32 zeroA) := (Blk.set (Blk.set (Blk.set (Blk.set (Blk.set (Blk.set (Blk.set (Blk.set HD0.out 0 _) 1 _) 2 _) 3 _) 4 _) 5 _) 6 _) 7 _)
          have HA1 : Hid (Blk (World.setCell (World.setCell (World.setCell (World.setCell (World.setCell (World.setCell (World.setCell (World.setCell wd ⟨h0, 0, none⟩ (.int .i64 0)) ⟨h0, 1, none⟩ (.int .i64 0)) ⟨h0, 2, none⟩ (.int .i64 0)) ⟨h0, 3, none⟩ (.int .i64 0)) ⟨h0, 4, none⟩ (.int .i64 0)) ⟨h0, 5, none⟩ (.slice none 0 0)) ⟨h0, 6, none⟩ (.slice none 0 0)) ⟨h0, 7, none⟩ (.slice none 0 0)) h1 40 #[.int .i64 0, .int .i64 0]) := (But.blk (But.set h0 7 _ _) (But.blk (But.set h0 6 _ _) (But.blk (But.set h0 5 _ _) (But.blk (But.set h0 4 _ _) (But.blk (But.set h0 3 _ _) (But.blk (But.set h0 2 _ _) (But.blk (But.set h0 1 _ _) (But.blk (But.set h0 0 _ _) HD1.out (by omega)) (by omega)) (by omega)) (by omega)) (by omega)) (by omega)) (by omega)) (by omega))
          have HA2 : Hid (Blk (World.setCell (World.setCell (World.setCell (World.setCell (World.setCell (World.setCell (World.setCell (World.setCell wd ⟨h0, 0, none⟩ (.int .i64 0)) ⟨h0, 1, none⟩ (.int .i64 0)) ⟨h0, 2, none⟩ (.int .i64 0)) ⟨h0, 3, none⟩ (.int .i64 0)) ⟨h0, 4, none⟩ (.int .i64 0)) ⟨h0, 5, none⟩ (.slice none 0 0)) ⟨h0, 6, none⟩ (.slice none 0 0)) ⟨h0, 7, none⟩ (.slice none 0 0)) h2 40 #[.int .i64 18, .int .i64 0]) := (But.blk (But.set h0 7 _ _) (But.blk (But.set h0 6 _ _) (But.blk (But.set h0 5 _ _) (But.blk (But.set h0 4 _ _) (But.blk (But.set h0 3 _ _) (But.blk (But.set h0 2 _ _) (But.blk (But.set h0 1 _ _) (But.blk (But.set h0 0 _ _) HD2.out (by omega)) (by omega)) (by omega)) (by omega)) (by omega)) (by omega)) (by omega)) (by omega))
          have HK0 : Hid (Kp [h0, h1] wd (World.setCell (World.setCell (World.setCell (World.setCell (World.setCell (World.setCell (World.setCell (World.setCell wd ⟨h0, 0, none⟩ (.int .i64 0)) ⟨h0, 1, none⟩ (.int .i64 0)) ⟨h0, 2, none⟩ (.int .i64 0)) ⟨h0, 3, none⟩ (.int .i64 0)) ⟨h0, 4, none⟩ (.int .i64 0)) ⟨h0, 5, none⟩ (.slice none 0 0)) ⟨h0, 6, none⟩ (.slice none 0 0)) ⟨h0, 7, none⟩ (.slice none 0 0))) := (((((((((Kp.refl [h0, h1] wd).trans (Kp.set _ _ 0 _ _ (by simp))).trans (Kp.set _ _ 1 _ _ (by simp))).trans (Kp.set _ _ 2 _ _ (by simp))).trans (Kp.set _ _ 3 _ _ (by simp))).trans (Kp.set _ _ 4 _ _ (by simp))).trans (Kp.set _ _ 5 _ _ (by simp))).trans (Kp.set _ _ 6 _ _ (by simp))).trans (Kp.set _ _ 7 _ _ (by simp)))
          have r0 : wd.cell? ⟨h0, 0, none⟩ = some (.int .i64 0) := HD0.out.cell rfl
          have rf0 := HD0.out.frozen 0
          have r1 : wd.cell? ⟨h0, 1, none⟩ = some (.int .i64 0) := HD0.out.cell rfl
          have rf1 := HD0.out.frozen 1
          have r2 : wd.cell? ⟨h0, 2, none⟩ = some (.int .i64 0) := HD0.out.cell rfl
          have rf2 := HD0.out.frozen 2
          have r3 : wd.cell? ⟨h0, 3, none⟩ = some (.int .i64 0) := HD0.out.cell rfl
          have rf3 := HD0.out.frozen 3
          have r4 : wd.cell? ⟨h0, 4, none⟩ = some (.int .i64 0) := HD0.out.cell rfl
          have rf4 := HD0.out.frozen 4
          have r5 : wd.cell? ⟨h0, 5, none⟩ = some (.slice none 0 0) := HD0.out.cell rfl
          have rf5 := HD0.out.frozen 5
          have r6 : wd.cell? ⟨h0, 6, none⟩ = some (.slice none 0 0) := HD0.out.cell rfl
          have rf6 := HD0.out.frozen 6
          have r7 : wd.cell? ⟨h0, 7, none⟩ = some (.slice none 0 0) := HD0.out.cell rfl
          have rf7 := HD0.out.frozen 7
          have KS : Hid (∀ w', Blk w' h2 40 #[.int .i64 18, .int .i64 0] → (fun w' => w'.cell? ⟨h2, 0, none⟩ = some (.int .i64 18) ∧ w'.cell? ⟨h2, 1, none⟩ = some (.int .i64 0)) w') := fun w' hw' => ⟨hw'.cell rfl, hw'.cell rfl⟩
          refine wp_region_noPanic ?_
          refine wp_region_held_drew (S := (fun w' => w'.cell? ⟨h2, 0, none⟩ = some (.int .i64 18) ∧ w'.cell? ⟨h2, 1, none⟩ = some (.int .i64 0))) (by kernel_rfl) (by exact KS.out _ (by rw [← hwd]; exact HD2.out)) (fun hHeld => ?_)
          rw [← hwd] at hHeld ⊢
          clear hwd
          refine tk 0 ?_
          refine tk 1 ?_
          refine wpAnyH_ready (rs := [2]) (by kernel_rfl) (by simp) ?_
          refine AllReadyH.cons (o := _) rfl (fun K hK => ?_) AllReadyH.nil
          (try simp only [gA, gB, gC])
          go_simp
          refine hK.out _ _ (by exact KS.out _ HA2.out) (fun hHeld1 => ?_)
          clear hK K
          clear r0 rf0 r1 rf1 r2 rf2 r3 rf3 r4 rf4 r5 rf5 r6 rf6 r7 rf7 hHeld
          generalize (World.setCell (World.setCell (World.setCell (World.setCell (World.setCell (World.setCell (World.setCell (World.setCell wd ⟨h0, 0, none⟩ (.int .i64 0)) ⟨h0, 1, none⟩ (.int .i64 0)) ⟨h0, 2, none⟩ (.int .i64 0)) ⟨h0, 3, none⟩ (.int .i64 0)) ⟨h0, 4, none⟩ (.int .i64 0)) ⟨h0, 5, none⟩ (.slice none 0 0)) ⟨h0, 6, none⟩ (.slice none 0 0)) ⟨h0, 7, none⟩ (.slice none 0 0)) = Y at *
          clear HD0 HD1 HD2
          have HR1 : Hid (Blk (World.setCell (World.setCell Y ⟨h1, 0, none⟩ (.int .i64 18)) ⟨h1, 1, none⟩ (.int .i64 0)) h1 40 #[.int .i64 18, .int .i64 0]) := (HA1.out.set 0 _).set 1 _
          have HR2 : Hid (Blk (World.setCell (World.setCell Y ⟨h1, 0, none⟩ (.int .i64 18)) ⟨h1, 1, none⟩ (.int .i64 0)) h0 32 zeroA) := (But.set h1 1 _ _).blk ((But.set h1 0 _ _).blk HR0.out (by omega)) (by omega)
          have HR3 : Hid (Blk (World.setCell (World.setCell Y ⟨h1, 0, none⟩ (.int .i64 18)) ⟨h1, 1, none⟩ (.int .i64 0)) h2 40 #[.int .i64 18, .int .i64 0]) := (But.set h1 1 _ _).blk ((But.set h1 0 _ _).blk HA2.out (by omega)) (by omega)
          have HK1 : Hid (Kp [h0, h1] wd (World.setCell (World.setCell Y ⟨h1, 0, none⟩ (.int .i64 18)) ⟨h1, 1, none⟩ (.int .i64 0))) := (HK0.out.trans (Kp.set _ _ _ _ _ (by simp))).trans (Kp.set _ _ _ _ _ (by simp))
          have s0 : Y.cell? ⟨h1, 0, none⟩ = some (.int .i64 0) := HA1.out.cell rfl
          have sf0 := HA1.out.frozen 0
          have s1 : Y.cell? ⟨h1, 1, none⟩ = some (.int .i64 0) := HA1.out.cell rfl
          have sf1 := HA1.out.frozen 1
          (try simp only [Act.put]); (try simp only [sA]); (try simp only [sB, sC])
          refine wpAnyH_ready (rs := [3]) (by kernel_rfl) (by simp) ?_
          refine AllReadyH.cons (o := _) rfl (fun K hK => ?_) AllReadyH.nil
          (try simp only [gA, gB, gC])
          go_simp
          refine hK.out _ _ (by exact KS.out _ HR3.out) (fun hHeld2 => ?_)
          clear hK K
          (try simp only [Act.put]); (try simp only [sA]); (try simp only [sB, sC])
          refine wpAnyH_done (by kernel_rfl) ?_ _
          refine NoPanic.normal ?_
          clear s0 sf0 s1 sf1 hHeld1 hHeld2
          generalize (World.setCell (World.setCell Y ⟨h1, 0, none⟩ (.int .i64 18)) ⟨h1, 1, none⟩ (.int .i64 0)) = Z at *
          have HBZ : Hid (Below w.heap.size w Z) := HBD.out.trans (HK1.out.below (by intro g hg; simp at hg; omega) HBD.out.size)
          clear HBD HR0 HA1 HA2 HR3 HK0 HK1 KS
          have r0 : Z.cell? ⟨h0, 0, none⟩ = some (.int .i64 0) := HR2.out.cell rfl
          have r1 : Z.cell? ⟨h0, 1, none⟩ = some (.int .i64 0) := HR2.out.cell rfl
          have r2 : Z.cell? ⟨h0, 2, none⟩ = some (.int .i64 0) := HR2.out.cell rfl
          have r3 : Z.cell? ⟨h0, 3, none⟩ = some (.int .i64 0) := HR2.out.cell rfl
          have r4 : Z.cell? ⟨h0, 4, none⟩ = some (.int .i64 0) := HR2.out.cell rfl
          have r5 : Z.cell? ⟨h0, 5, none⟩ = some (.slice none 0 0) := HR2.out.cell rfl
          have r6 : Z.cell? ⟨h0, 6, none⟩ = some (.slice none 0 0) := HR2.out.cell rfl
          have r7 : Z.cell? ⟨h0, 7, none⟩ = some (.slice none 0 0) := HR2.out.cell rfl
          have s0 : Z.cell? ⟨h1, 0, none⟩ = some (.int .i64 18) := HR1.out.cell rfl
          have s1 : Z.cell? ⟨h1, 1, none⟩ = some (.int .i64 0) := HR1.out.cell rfl
          go_wp2
          refine bodyPost_ret (v := .tuple #[.agg zeroA, .agg #[.int .i64 18, .int .i64 0]]) (by unfold zeroA cfA; simp [results, Tryd.results8, go_sem, *]) rfl ?_
          exact ⟨fun h => absurd (h.symm.trans HGK.out) (by decide), fun _ => ⟨rfl, HBZ.out⟩⟩
         ·have hsl2 : selsOk nm = true := by cases h : selsOk nm <;> simp_all
          rw [hsl2]
          rw [hsl2] at HGOK
          clear hsl
          have HGOK2 : Hid (gOk bs = !endBad bt EP false) := HGOK.out
          clear hsl2 HGOK
          have HSPB : Hid (SpecN (numN bt) ⟨sh, cols, regs, outs⟩) := by rw [← HNM.out]; exact HSPEC.out
          have HSOB : Hid ((shS (numN bt)).ok = true) := by rw [← HNM.out, ← HSHS.out]; exact HOK.out
          have ENCC : Hid (∀ v, Below t1.heap.size t1 v → Calls Tryd.prog 5 #[.agg (cfA sh v1' v2 v3)] v fun e w' => ∃ X u, e = .returned u ∧ Enc X (32 + EP) (fB bt) ∧ w'.ownsRow v.heap.size 5 1 u (X.length + 4) ((X ++ sumB (crcV X)).map byV) ∧ Below v.heap.size v w') := fun v hv => by
           have hcv := HCt.out.kp (gs := [sb]) (Below.kp hv) (by simp; omega) (by intro g hg; simp at hg; left; omega)
           obtain ⟨S1, hS1, hC1⟩ := hcv.cn (HBGH.out _ (by have := HLC2.out.1; omega)) (fun d hd => HBGH.out _ (HLC2.out.2 d hd)) (HBGH.out _ (by rw [HRL2.out]; omega)) (HBGH.out _ HOL.out)
           have h := encode_doc v.heap.size v (Nat.le_refl _) S1 _ hC1 bt HSPB.out HSOB.out
           rw [← HNM.out, HEPE.out, ← hS1] at h
           exact h
          obtain ⟨sbs, HSBS⟩ : ∃ s, Hid (s = strB bs) := ⟨_, rfl⟩
          have KE : Hid (∀ v, Below t1.heap.size t1 v → (fun w' => w'.cell? ⟨sb, 3, none⟩ = some (.bool false) ∧ w'.cell? ⟨cb, 0, none⟩ = some (.int .i64 sh.ins) ∧ w'.cell? ⟨cb, 1, none⟩ = some (.int .i64 sh.outs) ∧ w'.cell? ⟨cb, 2, none⟩ = some (.int .i64 sh.regs) ∧ w'.cell? ⟨cb, 3, none⟩ = some (.int .i64 sh.rows) ∧ w'.cell? ⟨cb, 4, none⟩ = some (.int .i64 sh.cols) ∧ w'.cell? ⟨cb, 5, none⟩ = some (v1') ∧ w'.cell? ⟨cb, 6, none⟩ = some (v2) ∧ w'.cell? ⟨cb, 7, none⟩ = some (v3) ∧ (convert 22 9 (.slice (some ⟨ab, ao, none⟩) (n + 4) c)).run Tryd.prog w' = .ok (.string sbs) w') v) := fun v hv => by
           have hbx := HCt.out.box.below hv
           refine ⟨(hv.cell (p := ⟨sb, 3, none⟩) HSt.out.lt).trans so, hbx.cell rfl, hbx.cell rfl, hbx.cell rfl, hbx.cell rfl, hbx.cell rfl, hbx.cell rfl, hbx.cell rfl, hbx.cell rfl, ?_⟩
           rw [HSBS.out]
           exact KVB.out v (HBt.out.trans (hv.mono HBt.out.size))
          have HBD0 : Hid (Below t1.heap.size t1 t1.drew) := Below.drew (Below.refl _ _)
          unfold cfA at ENCC
          refine wp_region_noPanic ?_
          refine wp_region_held_drew (S := (fun w' => w'.cell? ⟨sb, 3, none⟩ = some (.bool false) ∧ w'.cell? ⟨cb, 0, none⟩ = some (.int .i64 sh.ins) ∧ w'.cell? ⟨cb, 1, none⟩ = some (.int .i64 sh.outs) ∧ w'.cell? ⟨cb, 2, none⟩ = some (.int .i64 sh.regs) ∧ w'.cell? ⟨cb, 3, none⟩ = some (.int .i64 sh.rows) ∧ w'.cell? ⟨cb, 4, none⟩ = some (.int .i64 sh.cols) ∧ w'.cell? ⟨cb, 5, none⟩ = some (v1') ∧ w'.cell? ⟨cb, 6, none⟩ = some (v2) ∧ w'.cell? ⟨cb, 7, none⟩ = some (v3) ∧ (convert 22 9 (.slice (some ⟨ab, ao, none⟩) (n + 4) c)).run Tryd.prog w' = .ok (.string sbs) w')) (by kernel_rfl) (by exact KE.out _ HBD0.out) (fun hHeld => ?_)
          refine tk 0 ?_
          refine tk 1 ?_
          refine tk 2 ?_
          refine tk 3 ?_
          refine tk 4 ?_
          refine tk 5 ?_
          refine tk 6 ?_
          refine tk 7 ?_
          refine tk 8 ?_
          refine tk 9 ?_
          refine tk 12 ?_
          refine tk 13 ?_
          refine wpAnyH_ready (rs := [10]) (by kernel_rfl) (by simp) ?_
          refine AllReadyH.cons (o := _) rfl (fun K hK => ?_) AllReadyH.nil
          (try simp only [gA, gB, gC])
          go_simp
          go_at_call 5
          refine (ENCC.out t1.drew HBD0.out).mono ?_
          rintro e t2 ⟨X, v, rfl, hex, how, hb2⟩
          have HB2 : Hid (Below t1.drew.heap.size t1.drew t2) := hb2
          have HEX := hidden hex
          obtain ⟨xa, xc, hxv, hxr⟩ := own_row (f := byteC) (xs := X ++ sumB (crcV X)) (by rw [flat_one byteC byV (fun _ => rfl)]; exact how) (by rw [List.length_append]; rfl) (fun _ => rfl)
          subst hxv
          have hxb : ∀ x, x ∈ X ++ sumB (crcV X) → x < 256 := by
           intro x hx
           rcases List.mem_append.1 hx with hx | hx
           ·exact hex.byte x hx
           ·simp [sumB] at hx; omega
          have hcvx := conv_bytes hxr hxb xc
          have hxl : (X ++ sumB (crcV X)).length = X.length + 4 := by rw [List.length_append]; rfl
          rw [hxl] at hcvx
          have HEQ : Hid (((strB (X ++ sumB (crcV X))).toList == sbs.toList) = decide (X ++ sumB (crcV X) = bs)) := by rw [HSBS.out]; exact strB_eq hxb HBBY.out
          generalize strB (X ++ sumB (crcV X)) = sxs at *
          have HBD2 : Hid (Below t1.heap.size t1 t2) := ⟨hb2.os, hb2.tape, hb2.output, hb2.size, hb2.block⟩
          clear hex how hb2 hxr hxb hxl
          go_wp2_with fail
          refine hK.out _ _ (by exact KE.out _ HBD2.out) (fun hHeld1 => ?_)
          clear hK K
          (try simp only [Act.put]); (try simp only [sA]); (try simp only [sB, sC])
          refine wpAnyH_ready (rs := [11]) (by kernel_rfl) (by simp) ?_
          refine AllReadyH.cons (o := _) rfl (fun K hK => ?_) AllReadyH.nil
          (try simp only [gA, gB, gC])
          go_simp
          refine hK.out _ _ (by exact KE.out _ HBD2.out) (fun hHeld2 => ?_)
          clear hK K
          (try simp only [Act.put]); (try simp only [sA]); (try simp only [sB, sC])
          refine tk 14 ?_
          refine tk 15 ?_
          refine wpAnyH_done (by kernel_rfl) ?_ _
          refine NoPanic.normal ?_
          clear so hHeld hHeld1 hHeld2 KE ENCC HBD0 hcvx
          have HZ0u : Hid (Blk t2 h0 32 zeroA) := HZ0t.out.below HBD2.out
          have HZ1u : Hid (Blk t2 h1 40 #[.int .i64 0, .int .i64 0]) := HZ1t.out.below HBD2.out
          have HZ2u : Hid (Blk t2 h2 40 #[.int .i64 18, .int .i64 0]) := HZ2t.out.below HBD2.out
          have HBu : Hid (Below w.heap.size w t2) := HBt.out.trans (HBD2.out.mono HBt.out.size)
          have HXI : Hid (X ++ sumB (crcV X) = bs ↔ X = bd) := by
           constructor
           ·intro e
            rw [HBSE.out] at e
            have hlx : (sumB (crcV X)).length = (lastL bs).length := by rw [← HCRC.out]; rfl
            exact (List.append_inj' e hlx).1
           ·intro e
            rw [e, HCRC.out]
            exact HBSE.out.symm
          have HGI : Hid (X = bd ↔ endBad bt EP false = false) := by
           rw [HBDM.out]
           exact good_iff (by rw [← HBDM.out]; exact HBDB.out) EP HEX.out
          by_cases hxe : X = bd
          ·have hq : (sxs.toList == sbs.toList) = true := by rw [HEQ.out, decide_eq_true (HXI.out.2 hxe)]
           have HGK : Hid (gOk bs = true) := by show _ = _; rw [HGOK2.out, HGI.out.1 hxe]; rfl
           clear hxe
           have HCu : Hid (CbAt base t2 cb sh v1' v2 v3 cols regs outs) := HCt.out.kp (gs := [sb]) (Below.kp HBD2.out) (by simp; omega) (by intro g hg; simp at hg; left; omega)
           obtain ⟨pa1, pm1, pc1, hv1e⟩ := own_val HCu.out.o1
           obtain ⟨pa2, pm2, pc2, hv2e⟩ := own_val HCu.out.o2
           obtain ⟨pa3, pm3, pc3, hv3e⟩ := own_val HCu.out.o3
           subst hv1e hv2e hv3e
           rw [hq]
           clear hq
           have e0 : t2.cell? ⟨cb, 0, none⟩ = some (.int .i64 sh.ins) := HCu.out.box.cell rfl
           have e1 : t2.cell? ⟨cb, 1, none⟩ = some (.int .i64 sh.outs) := HCu.out.box.cell rfl
           have e2 : t2.cell? ⟨cb, 2, none⟩ = some (.int .i64 sh.regs) := HCu.out.box.cell rfl
           have e3 : t2.cell? ⟨cb, 3, none⟩ = some (.int .i64 sh.rows) := HCu.out.box.cell rfl
           have e4 : t2.cell? ⟨cb, 4, none⟩ = some (.int .i64 sh.cols) := HCu.out.box.cell rfl
           have e5 : t2.cell? ⟨cb, 5, none⟩ = some (.slice pa1 pm1 pc1) := HCu.out.box.cell rfl
           have e6 : t2.cell? ⟨cb, 6, none⟩ = some (.slice pa2 pm2 pc2) := HCu.out.box.cell rfl
           have e7 : t2.cell? ⟨cb, 7, none⟩ = some (.slice pa3 pm3 pc3) := HCu.out.box.cell rfl
           have r0 : t2.cell? ⟨h0, 0, none⟩ = some (.int .i64 0) := HZ0u.out.cell rfl
           have rf0 := HZ0u.out.frozen 0
           have r1 : t2.cell? ⟨h0, 1, none⟩ = some (.int .i64 0) := HZ0u.out.cell rfl
           have rf1 := HZ0u.out.frozen 1
           have r2 : t2.cell? ⟨h0, 2, none⟩ = some (.int .i64 0) := HZ0u.out.cell rfl
           have rf2 := HZ0u.out.frozen 2
           have r3 : t2.cell? ⟨h0, 3, none⟩ = some (.int .i64 0) := HZ0u.out.cell rfl
           have rf3 := HZ0u.out.frozen 3
           have r4 : t2.cell? ⟨h0, 4, none⟩ = some (.int .i64 0) := HZ0u.out.cell rfl
           have rf4 := HZ0u.out.frozen 4
           have r5 : t2.cell? ⟨h0, 5, none⟩ = some (.slice none 0 0) := HZ0u.out.cell rfl
           have rf5 := HZ0u.out.frozen 5
           have r6 : t2.cell? ⟨h0, 6, none⟩ = some (.slice none 0 0) := HZ0u.out.cell rfl
           have rf6 := HZ0u.out.frozen 6
           have r7 : t2.cell? ⟨h0, 7, none⟩ = some (.slice none 0 0) := HZ0u.out.cell rfl
           have rf7 := HZ0u.out.frozen 7
           have s0 : t2.cell? ⟨h1, 0, none⟩ = some (.int .i64 0) := HZ1u.out.cell rfl
           have sf0 := HZ1u.out.frozen 0
           have s1 : t2.cell? ⟨h1, 1, none⟩ = some (.int .i64 0) := HZ1u.out.cell rfl
           have sf1 := HZ1u.out.frozen 1
           go_wp2
           have HR0 : Hid (Blk (World.setCell (World.setCell (World.setCell (World.setCell (World.setCell (World.setCell (World.setCell (World.setCell t2 ⟨h0, 0, none⟩ (.int .i64 sh.ins)) ⟨h0, 1, none⟩ (.int .i64 sh.outs)) ⟨h0, 2, none⟩ (.int .i64 sh.regs)) ⟨h0, 3, none⟩ (.int .i64 sh.rows)) ⟨h0, 4, none⟩ (.int .i64 sh.cols)) ⟨h0, 5, none⟩ (.slice pa1 pm1 pc1)) ⟨h0, 6, none⟩ (.slice pa2 pm2 pc2)) ⟨h0, 7, none⟩ (.slice pa3 pm3 pc3)) h0 32 (cfA sh (.slice pa1 pm1 pc1) (.slice pa2 pm2 pc2) (.slice pa3 pm3 pc3))) := (Blk.set (Blk.set (Blk.set (Blk.set (Blk.set (Blk.set (Blk.set (Blk.set HZ0u.out 0 _) 1 _) 2 _) 3 _) 4 _) 5 _) 6 _) 7 _)
           have HA1 : Hid (Blk (World.setCell (World.setCell (World.setCell (World.setCell (World.setCell (World.setCell (World.setCell (World.setCell t2 ⟨h0, 0, none⟩ (.int .i64 sh.ins)) ⟨h0, 1, none⟩ (.int .i64 sh.outs)) ⟨h0, 2, none⟩ (.int .i64 sh.regs)) ⟨h0, 3, none⟩ (.int .i64 sh.rows)) ⟨h0, 4, none⟩ (.int .i64 sh.cols)) ⟨h0, 5, none⟩ (.slice pa1 pm1 pc1)) ⟨h0, 6, none⟩ (.slice pa2 pm2 pc2)) ⟨h0, 7, none⟩ (.slice pa3 pm3 pc3)) h1 40 #[.int .i64 0, .int .i64 0]) := (But.blk (But.set h0 7 _ _) (But.blk (But.set h0 6 _ _) (But.blk (But.set h0 5 _ _) (But.blk (But.set h0 4 _ _) (But.blk (But.set h0 3 _ _) (But.blk (But.set h0 2 _ _) (But.blk (But.set h0 1 _ _) (But.blk (But.set h0 0 _ _) HZ1u.out (by omega)) (by omega)) (by omega)) (by omega)) (by omega)) (by omega)) (by omega)) (by omega))
           have HK0 : Hid (Kp [h0, h1] t2 (World.setCell (World.setCell (World.setCell (World.setCell (World.setCell (World.setCell (World.setCell (World.setCell t2 ⟨h0, 0, none⟩ (.int .i64 sh.ins)) ⟨h0, 1, none⟩ (.int .i64 sh.outs)) ⟨h0, 2, none⟩ (.int .i64 sh.regs)) ⟨h0, 3, none⟩ (.int .i64 sh.rows)) ⟨h0, 4, none⟩ (.int .i64 sh.cols)) ⟨h0, 5, none⟩ (.slice pa1 pm1 pc1)) ⟨h0, 6, none⟩ (.slice pa2 pm2 pc2)) ⟨h0, 7, none⟩ (.slice pa3 pm3 pc3))) := (((((((((Kp.refl [h0, h1] t2).trans (Kp.set _ _ 0 _ _ (by simp))).trans (Kp.set _ _ 1 _ _ (by simp))).trans (Kp.set _ _ 2 _ _ (by simp))).trans (Kp.set _ _ 3 _ _ (by simp))).trans (Kp.set _ _ 4 _ _ (by simp))).trans (Kp.set _ _ 5 _ _ (by simp))).trans (Kp.set _ _ 6 _ _ (by simp))).trans (Kp.set _ _ 7 _ _ (by simp)))
           generalize (World.setCell (World.setCell (World.setCell (World.setCell (World.setCell (World.setCell (World.setCell (World.setCell t2 ⟨h0, 0, none⟩ (.int .i64 sh.ins)) ⟨h0, 1, none⟩ (.int .i64 sh.outs)) ⟨h0, 2, none⟩ (.int .i64 sh.regs)) ⟨h0, 3, none⟩ (.int .i64 sh.rows)) ⟨h0, 4, none⟩ (.int .i64 sh.cols)) ⟨h0, 5, none⟩ (.slice pa1 pm1 pc1)) ⟨h0, 6, none⟩ (.slice pa2 pm2 pc2)) ⟨h0, 7, none⟩ (.slice pa3 pm3 pc3)) = Y9 at *
           have HR1 : Hid (Blk (World.setCell (World.setCell Y9 ⟨h1, 0, none⟩ (.int .i64 0)) ⟨h1, 1, none⟩ (.int .i64 0)) h1 40 #[.int .i64 0, .int .i64 0]) := (HA1.out.set 0 _).set 1 _
           have HR2 : Hid (Blk (World.setCell (World.setCell Y9 ⟨h1, 0, none⟩ (.int .i64 0)) ⟨h1, 1, none⟩ (.int .i64 0)) h0 32 (cfA sh (.slice pa1 pm1 pc1) (.slice pa2 pm2 pc2) (.slice pa3 pm3 pc3))) := (But.set h1 1 _ _).blk ((But.set h1 0 _ _).blk HR0.out (by omega)) (by omega)
           have HK1 : Hid (Kp [h0, h1] t2 (World.setCell (World.setCell Y9 ⟨h1, 0, none⟩ (.int .i64 0)) ⟨h1, 1, none⟩ (.int .i64 0))) := (HK0.out.trans (Kp.set _ _ _ _ _ (by simp))).trans (Kp.set _ _ _ _ _ (by simp))
           clear HR0 HA1 HK0
           generalize (World.setCell (World.setCell Y9 ⟨h1, 0, none⟩ (.int .i64 0)) ⟨h1, 1, none⟩ (.int .i64 0)) = Z at *
           clear e0 r0 rf0 e1 r1 rf1 e2 r2 rf2 e3 r3 rf3 e4 r4 rf4 e5 r5 rf5 e6 r6 rf6 e7 r7 rf7 s0 sf0 s1 sf1
           have HBZ : Hid (Below w.heap.size w Z) := HBu.out.trans (HK1.out.below (by intro g hg; simp at hg; omega) HBu.out.size)
           have HCZ : Hid (CbAt base Z cb sh (.slice pa1 pm1 pc1) (.slice pa2 pm2 pc2) (.slice pa3 pm3 pc3) cols regs outs) := HCu.out.kp HK1.out (by simp; omega) (by intro g hg; simp at hg; left; omega)
           have r0 : Z.cell? ⟨h0, 0, none⟩ = some (.int .i64 sh.ins) := HR2.out.cell rfl
           have r1 : Z.cell? ⟨h0, 1, none⟩ = some (.int .i64 sh.outs) := HR2.out.cell rfl
           have r2 : Z.cell? ⟨h0, 2, none⟩ = some (.int .i64 sh.regs) := HR2.out.cell rfl
           have r3 : Z.cell? ⟨h0, 3, none⟩ = some (.int .i64 sh.rows) := HR2.out.cell rfl
           have r4 : Z.cell? ⟨h0, 4, none⟩ = some (.int .i64 sh.cols) := HR2.out.cell rfl
           have r5 : Z.cell? ⟨h0, 5, none⟩ = some (.slice pa1 pm1 pc1) := HR2.out.cell rfl
           have r6 : Z.cell? ⟨h0, 6, none⟩ = some (.slice pa2 pm2 pc2) := HR2.out.cell rfl
           have r7 : Z.cell? ⟨h0, 7, none⟩ = some (.slice pa3 pm3 pc3) := HR2.out.cell rfl
           have s0 : Z.cell? ⟨h1, 0, none⟩ = some (.int .i64 0) := HR1.out.cell rfl
           have s1 : Z.cell? ⟨h1, 1, none⟩ = some (.int .i64 0) := HR1.out.cell rfl
           clear HCu HK1 HBu HZ0u HZ1u HZ2u HBD2 HEX HEQ HXI HGI
           refine bodyPost_ret (v := .tuple #[.agg (cfA sh (.slice pa1 pm1 pc1) (.slice pa2 pm2 pc2) (.slice pa3 pm3 pc3)), .agg #[.int .i64 0, .int .i64 0]]) (by unfold cfA; simp [results, Tryd.results8, go_sem, r0, r1, r2, r3, r4, r5, r6, r7, s0, s1]) rfl ?_
           obtain ⟨S9, hS9, hC9⟩ := HCZ.out.cn (HBGH.out _ (by have := HLC2.out.1; omega)) (fun d hd => HBGH.out _ (HLC2.out.2 d hd)) (HBGH.out _ (by rw [HRL2.out]; omega)) (HBGH.out _ HOL.out)
           exact ⟨fun _ => ⟨S9, _, by rw [hS9], HSPB.out, hC9, HBZ.out⟩, fun h => absurd (h.symm.trans HGK.out) (by decide)⟩
          ·have hq : (sxs.toList == sbs.toList) = false := by rw [HEQ.out, decide_eq_false (fun e => hxe (HXI.out.1 e))]
           have HGK : Hid (gOk bs = false) := by
            show _ = _
            rw [HGOK2.out]
            cases hb : endBad bt EP false
            ·exact absurd (HGI.out.2 hb) hxe
            ·rfl
           clear hxe
           rw [hq]
           clear hq
           have HZ0' : Hid (Blk t2 h0 32 zeroA) := HZ0u.out
           have HZ1' : Hid (Blk t2 h1 40 #[.int .i64 0, .int .i64 0]) := HZ1u.out
           have HZ2' : Hid (Blk t2 h2 40 #[.int .i64 18, .int .i64 0]) := HZ2u.out
           have HBX : Hid (Below w.heap.size w t2) := HBu.out
           clear HZ0 HZ1 HZ2 HZ0t HZ1t HZ2t
           have HZ0 := HZ0'
           have HZ1 := HZ1'
           have HZ2 := HZ2'
           clear HZ0' HZ1' HZ2'
           go_wp2_with fail
           obtain ⟨wd, hwd⟩ : ∃ x, x = t2.drew := ⟨_, rfl⟩
           have HD0 : Hid (Blk wd h0 32 zeroA) := by rw [hwd]; exact HZ0.out.drewN 1
           have HD1 : Hid (Blk wd h1 40 #[.int .i64 0, .int .i64 0]) := by rw [hwd]; exact HZ1.out.drewN 1
           have HD2 : Hid (Blk wd h2 40 #[.int .i64 18, .int .i64 0]) := by rw [hwd]; exact HZ2.out.drewN 1
           have HBD : Hid (Below w.heap.size w wd) := by rw [hwd]; exact Below.drew HBX.out
           have HR0 : Hid (Blk (World.setCell (World.setCell (World.setCell (World.setCell (World.setCell (World.setCell (World.setCell (World.setCell wd ⟨h0, 0, none⟩ (.int .i64 0)) ⟨h0, 1, none⟩ (.int .i64 0)) ⟨h0, 2, none⟩ (.int .i64 0)) ⟨h0, 3, none⟩ (.int .i64 0)) ⟨h0, 4, none⟩ (.int .i64 0)) ⟨h0, 5, none⟩ (.slice none 0 0)) ⟨h0, 6, none⟩ (.slice none 0 0)) ⟨h0, 7, none⟩ (.slice none 0 0)) h0 32 zeroA) := (Blk.set (Blk.set (Blk.set (Blk.set (Blk.set (Blk.set (Blk.set (Blk.set HD0.out 0 _) 1 _) 2 _) 3 _) 4 _) 5 _) 6 _) 7 _)
           have HA1 : Hid (Blk (World.setCell (World.setCell (World.setCell (World.setCell (World.setCell (World.setCell (World.setCell (World.setCell wd ⟨h0, 0, none⟩ (.int .i64 0)) ⟨h0, 1, none⟩ (.int .i64 0)) ⟨h0, 2, none⟩ (.int .i64 0)) ⟨h0, 3, none⟩ (.int .i64 0)) ⟨h0, 4, none⟩ (.int .i64 0)) ⟨h0, 5, none⟩ (.slice none 0 0)) ⟨h0, 6, none⟩ (.slice none 0 0)) ⟨h0, 7, none⟩ (.slice none 0 0)) h1 40 #[.int .i64 0, .int .i64 0]) := (But.blk (But.set h0 7 _ _) (But.blk (But.set h0 6 _ _) (But.blk (But.set h0 5 _ _) (But.blk (But.set h0 4 _ _) (But.blk (But.set h0 3 _ _) (But.blk (But.set h0 2 _ _) (But.blk (But.set h0 1 _ _) (But.blk (But.set h0 0 _ _) HD1.out (by omega)) (by omega)) (by omega)) (by omega)) (by omega)) (by omega)) (by omega)) (by omega))
           have HA2 : Hid (Blk (World.setCell (World.setCell (World.setCell (World.setCell (World.setCell (World.setCell (World.setCell (World.setCell wd ⟨h0, 0, none⟩ (.int .i64 0)) ⟨h0, 1, none⟩ (.int .i64 0)) ⟨h0, 2, none⟩ (.int .i64 0)) ⟨h0, 3, none⟩ (.int .i64 0)) ⟨h0, 4, none⟩ (.int .i64 0)) ⟨h0, 5, none⟩ (.slice none 0 0)) ⟨h0, 6, none⟩ (.slice none 0 0)) ⟨h0, 7, none⟩ (.slice none 0 0)) h2 40 #[.int .i64 18, .int .i64 0]) := (But.blk (But.set h0 7 _ _) (But.blk (But.set h0 6 _ _) (But.blk (But.set h0 5 _ _) (But.blk (But.set h0 4 _ _) (But.blk (But.set h0 3 _ _) (But.blk (But.set h0 2 _ _) (But.blk (But.set h0 1 _ _) (But.blk (But.set h0 0 _ _) HD2.out (by omega)) (by omega)) (by omega)) (by omega)) (by omega)) (by omega)) (by omega)) (by omega))
           have HK0 : Hid (Kp [h0, h1] wd (World.setCell (World.setCell (World.setCell (World.setCell (World.setCell (World.setCell (World.setCell (World.setCell wd ⟨h0, 0, none⟩ (.int .i64 0)) ⟨h0, 1, none⟩ (.int .i64 0)) ⟨h0, 2, none⟩ (.int .i64 0)) ⟨h0, 3, none⟩ (.int .i64 0)) ⟨h0, 4, none⟩ (.int .i64 0)) ⟨h0, 5, none⟩ (.slice none 0 0)) ⟨h0, 6, none⟩ (.slice none 0 0)) ⟨h0, 7, none⟩ (.slice none 0 0))) := (((((((((Kp.refl [h0, h1] wd).trans (Kp.set _ _ 0 _ _ (by simp))).trans (Kp.set _ _ 1 _ _ (by simp))).trans (Kp.set _ _ 2 _ _ (by simp))).trans (Kp.set _ _ 3 _ _ (by simp))).trans (Kp.set _ _ 4 _ _ (by simp))).trans (Kp.set _ _ 5 _ _ (by simp))).trans (Kp.set _ _ 6 _ _ (by simp))).trans (Kp.set _ _ 7 _ _ (by simp)))
           have r0 : wd.cell? ⟨h0, 0, none⟩ = some (.int .i64 0) := HD0.out.cell rfl
           have rf0 := HD0.out.frozen 0
           have r1 : wd.cell? ⟨h0, 1, none⟩ = some (.int .i64 0) := HD0.out.cell rfl
           have rf1 := HD0.out.frozen 1
           have r2 : wd.cell? ⟨h0, 2, none⟩ = some (.int .i64 0) := HD0.out.cell rfl
           have rf2 := HD0.out.frozen 2
           have r3 : wd.cell? ⟨h0, 3, none⟩ = some (.int .i64 0) := HD0.out.cell rfl
           have rf3 := HD0.out.frozen 3
           have r4 : wd.cell? ⟨h0, 4, none⟩ = some (.int .i64 0) := HD0.out.cell rfl
           have rf4 := HD0.out.frozen 4
           have r5 : wd.cell? ⟨h0, 5, none⟩ = some (.slice none 0 0) := HD0.out.cell rfl
           have rf5 := HD0.out.frozen 5
           have r6 : wd.cell? ⟨h0, 6, none⟩ = some (.slice none 0 0) := HD0.out.cell rfl
           have rf6 := HD0.out.frozen 6
           have r7 : wd.cell? ⟨h0, 7, none⟩ = some (.slice none 0 0) := HD0.out.cell rfl
           have rf7 := HD0.out.frozen 7
           have KS : Hid (∀ w', Blk w' h2 40 #[.int .i64 18, .int .i64 0] → (fun w' => w'.cell? ⟨h2, 0, none⟩ = some (.int .i64 18) ∧ w'.cell? ⟨h2, 1, none⟩ = some (.int .i64 0)) w') := fun w' hw' => ⟨hw'.cell rfl, hw'.cell rfl⟩
           refine wp_region_noPanic ?_
           refine wp_region_held_drew (S := (fun w' => w'.cell? ⟨h2, 0, none⟩ = some (.int .i64 18) ∧ w'.cell? ⟨h2, 1, none⟩ = some (.int .i64 0))) (by kernel_rfl) (by exact KS.out _ (by rw [← hwd]; exact HD2.out)) (fun hHeld => ?_)
           rw [← hwd] at hHeld ⊢
           clear hwd
           refine tk 0 ?_
           refine tk 1 ?_
           refine wpAnyH_ready (rs := [2]) (by kernel_rfl) (by simp) ?_
           refine AllReadyH.cons (o := _) rfl (fun K hK => ?_) AllReadyH.nil
           (try simp only [gA, gB, gC])
           go_simp
           refine hK.out _ _ (by exact KS.out _ HA2.out) (fun hHeld1 => ?_)
           clear hK K
           clear r0 rf0 r1 rf1 r2 rf2 r3 rf3 r4 rf4 r5 rf5 r6 rf6 r7 rf7 hHeld
           generalize (World.setCell (World.setCell (World.setCell (World.setCell (World.setCell (World.setCell (World.setCell (World.setCell wd ⟨h0, 0, none⟩ (.int .i64 0)) ⟨h0, 1, none⟩ (.int .i64 0)) ⟨h0, 2, none⟩ (.int .i64 0)) ⟨h0, 3, none⟩ (.int .i64 0)) ⟨h0, 4, none⟩ (.int .i64 0)) ⟨h0, 5, none⟩ (.slice none 0 0)) ⟨h0, 6, none⟩ (.slice none 0 0)) ⟨h0, 7, none⟩ (.slice none 0 0)) = Y at *
           clear HD0 HD1 HD2
           have HR1 : Hid (Blk (World.setCell (World.setCell Y ⟨h1, 0, none⟩ (.int .i64 18)) ⟨h1, 1, none⟩ (.int .i64 0)) h1 40 #[.int .i64 18, .int .i64 0]) := (HA1.out.set 0 _).set 1 _
           have HR2 : Hid (Blk (World.setCell (World.setCell Y ⟨h1, 0, none⟩ (.int .i64 18)) ⟨h1, 1, none⟩ (.int .i64 0)) h0 32 zeroA) := (But.set h1 1 _ _).blk ((But.set h1 0 _ _).blk HR0.out (by omega)) (by omega)
           have HR3 : Hid (Blk (World.setCell (World.setCell Y ⟨h1, 0, none⟩ (.int .i64 18)) ⟨h1, 1, none⟩ (.int .i64 0)) h2 40 #[.int .i64 18, .int .i64 0]) := (But.set h1 1 _ _).blk ((But.set h1 0 _ _).blk HA2.out (by omega)) (by omega)
           have HK1 : Hid (Kp [h0, h1] wd (World.setCell (World.setCell Y ⟨h1, 0, none⟩ (.int .i64 18)) ⟨h1, 1, none⟩ (.int .i64 0))) := (HK0.out.trans (Kp.set _ _ _ _ _ (by simp))).trans (Kp.set _ _ _ _ _ (by simp))
           have s0 : Y.cell? ⟨h1, 0, none⟩ = some (.int .i64 0) := HA1.out.cell rfl
           have sf0 := HA1.out.frozen 0
           have s1 : Y.cell? ⟨h1, 1, none⟩ = some (.int .i64 0) := HA1.out.cell rfl
           have sf1 := HA1.out.frozen 1
           (try simp only [Act.put]); (try simp only [sA]); (try simp only [sB, sC])
           refine wpAnyH_ready (rs := [3]) (by kernel_rfl) (by simp) ?_
           refine AllReadyH.cons (o := _) rfl (fun K hK => ?_) AllReadyH.nil
           (try simp only [gA, gB, gC])
           go_simp
           refine hK.out _ _ (by exact KS.out _ HR3.out) (fun hHeld2 => ?_)
           clear hK K
           (try simp only [Act.put]); (try simp only [sA]); (try simp only [sB, sC])
           refine wpAnyH_done (by kernel_rfl) ?_ _
           refine NoPanic.normal ?_
           clear s0 sf0 s1 sf1 hHeld1 hHeld2
           generalize (World.setCell (World.setCell Y ⟨h1, 0, none⟩ (.int .i64 18)) ⟨h1, 1, none⟩ (.int .i64 0)) = Z at *
           have HBZ : Hid (Below w.heap.size w Z) := HBD.out.trans (HK1.out.below (by intro g hg; simp at hg; omega) HBD.out.size)
           clear HBD HR0 HA1 HA2 HR3 HK0 HK1 KS
           have r0 : Z.cell? ⟨h0, 0, none⟩ = some (.int .i64 0) := HR2.out.cell rfl
           have r1 : Z.cell? ⟨h0, 1, none⟩ = some (.int .i64 0) := HR2.out.cell rfl
           have r2 : Z.cell? ⟨h0, 2, none⟩ = some (.int .i64 0) := HR2.out.cell rfl
           have r3 : Z.cell? ⟨h0, 3, none⟩ = some (.int .i64 0) := HR2.out.cell rfl
           have r4 : Z.cell? ⟨h0, 4, none⟩ = some (.int .i64 0) := HR2.out.cell rfl
           have r5 : Z.cell? ⟨h0, 5, none⟩ = some (.slice none 0 0) := HR2.out.cell rfl
           have r6 : Z.cell? ⟨h0, 6, none⟩ = some (.slice none 0 0) := HR2.out.cell rfl
           have r7 : Z.cell? ⟨h0, 7, none⟩ = some (.slice none 0 0) := HR2.out.cell rfl
           have s0 : Z.cell? ⟨h1, 0, none⟩ = some (.int .i64 18) := HR1.out.cell rfl
           have s1 : Z.cell? ⟨h1, 1, none⟩ = some (.int .i64 0) := HR1.out.cell rfl
           go_wp2
           refine bodyPost_ret (v := .tuple #[.agg zeroA, .agg #[.int .i64 18, .int .i64 0]]) (by unfold zeroA cfA; simp [results, Tryd.results8, go_sem, *]) rfl ?_
           exact ⟨fun h => absurd (h.symm.trans HGK.out) (by decide), fun _ => ⟨rfl, HBZ.out⟩⟩
end Go.Proofs.YtjbnejjjbdalaaaDoor
