import Derived.Test.YtmifbcpinhpnnaaDoorAsA
namespace Go.Proofs.YtmifbcpinhpnnaaDoor
open Go.RowKit

set_option maxRecDepth 100000 in
set_option maxHeartbeats 8000000 in
theorem seven_any (w : World) (n : Nat) (hn : n < 4294967296) :
    Calls Tryd.prog 20 #[.int .i64 (n : Int)] w fun e w' => ∃ v', e = .returned v' ∧ Txt w.heap.size w' v' (sevenT n) ∧ Below w.heap.size w w' := by
  obtain ⟨i0, hi, hz, hs, hb⟩ := info_u8
  have HI := hidden hi
  have HZ := hidden hz
  have HS := hidden hs
  have HBY := hidden hb
  clear hi hz hs hb
  go_enter Tryd.func20, Tryd.ntmps20
  go_wp2_with fail
  go_loopw [0, 3] (fun i' b' w' => ∃ (k : Nat) (l : List UInt8), k ≤ n ∧ i' = .int .i64 (k : Int) ∧ Hid (sevenT n = l ++ sevenT k) ∧ Hid (Txt w.heap.size w' b' l) ∧ Hid (Below w.heap.size w w')) (fun i' _ _ => (intOf i').toNat)
  case atStart => exact ⟨n, [], Nat.le_refl _, rfl, by simp [Hid], ⟨rfl, .inl ⟨rfl, rfl⟩⟩, Below.refl _ _⟩
  case round =>
    obtain ⟨k, l, hk, rfl, HL, HT, HSt⟩ := hrel
    have hsz := HSt.out.size
    have hll : l.length ≤ 10 := by
      have h1 := seven_len n hn
      rw [HL.out, List.length_append] at h1
      omega
    by_cases h9 : 128 ≤ k
    · obtain ⟨c, hc⟩ : ∃ c : UInt8, c = UInt8.ofNat (k % 128 + 128) := ⟨_, rfl⟩
      have hcn : (c.toNat : Int) = ((k % 128 + 128 : Nat) : Int) := by rw [hc]; exact byte_nat _ (by omega)
      have q1 : Int.tmod (k : Int) 128 = ((k % 128 : Nat) : Int) := by rw [Int.tmod_eq_emod_of_nonneg (by omega)]; omega
      have q2 : Int.tdiv (k : Int) 128 = ((k / 128 : Nat) : Int) := by rw [Int.tdiv_eq_ediv_of_nonneg (by omega)]; omega
      have HNX : Hid (sevenT n = (l ++ [c]) ++ sevenT (k / 128)) := by
        show _ = _
        rw [HL.out, sevenT_big k (by omega), hc]; simp
      have hgeI : (127 : Int) < (k : Int) := by omega
      have hk2 : k / 128 < k := by omega
      have hk3 : k / 128 ≤ n := by omega
      have e0 : IntKind.i64.wrap ((k % 128 : Nat) : Int) = ((k % 128 : Nat) : Int) := wrapI _ (by omega) (by omega)
      have e1 : IntKind.i64.wrap (((k % 128 : Nat) : Int) + 128) = ((k % 128 : Nat) : Int) + 128 := wrapI _ (by omega) (by omega)
      have E1 : Hid (((k % 128 : Nat) : Int) + 128 = (c.toNat : Int)) := by show _ = _; omega
      have e2 : IntKind.u8.wrap (((k % 128 : Nat) : Int) + 128) = ((k % 128 : Nat) : Int) + 128 := by rw [IntKind.wrap_u8]; omega
      have e3 : IntKind.i64.wrap ((k / 128 : Nat) : Int) = ((k / 128 : Nat) : Int) := wrapI _ (by omega) (by omega)
      generalize k % 128 = a at *
      generalize k / 128 = kd at *
      have HOA : Hid (OwnM (wr.alloc (.cells #[.int .u8 ((a : Int) + 128)] 5)) w.heap.size 5 u3 l.length (bC8 l)) := OwnM.alloc HT.out _
      have hb1 : l.length + 1 ≤ 1000000000000 := by omega
      have hB1 : w.heap.size ≤ (wr.alloc (.cells #[.int .u8 ((a : Int) + 128)] 5)).heap.size := by simp; omega
      clear HL hc hcn
      have tok : True := trivial
      go_wp2_with (have _t := tok; at_builtin; (refine wpList_appendM _ rfl (.tmp 6) (.tmp 11) 33 rfl w.heap.size 5 i0 Tryd.underlying33 HI.out HZ.out HS.out HBY.out u3 _ _ rfl HOA.out ⟨wr.heap.size, 0, none⟩ 1 1 [.int .u8 ((a : Int) + 128)] rfl rfl (World.news_of_block (heap_new _ _)) (by simp [Value.oneCell']) hb1 hB1 ?_; intro v4 w4 hown4 hst4; clear tok))
      have HT4 : Hid (Txt w.heap.size w4 v4 (l ++ [c])) := by
        show Txt _ _ _ _
        rw [E1.out] at hown4
        exact txt_one hown4
      have HS4 : Hid (Below w.heap.size w w4) := (HSt.out.alloc hsz _).trans (hst4.below (by simp; omega) (fun k hk => (OwnM.lt HOA.out k hk).1))
      clear hown4 hst4 HT HSt HOA hb1 hB1
      go_roundw
      case measure => simp [intOf]; omega
      case rel => exact ⟨kd, l ++ [c], hk3, rfl, HNX.out, HT4.out, HS4.out⟩
    · obtain ⟨c, hc⟩ : ∃ c : UInt8, c = UInt8.ofNat k := ⟨_, rfl⟩
      have hcn : (c.toNat : Int) = (k : Int) := by rw [hc]; exact byte_nat _ (by omega)
      have hge : ¬ ((127 : Int) < (k : Int)) := by omega
      have e2 : IntKind.u8.wrap (k : Int) = (c.toNat : Int) := by rw [IntKind.wrap_u8]; omega
      have HNX : Hid (sevenT n = l ++ [c]) := by
        show _ = _
        rw [HL.out, sevenT_small k (by omega), hc]
      have HOA : Hid (OwnM (wr.alloc (.cells #[.int .u8 (c.toNat : Int)] 5)) w.heap.size 5 u3 l.length (bC8 l)) := OwnM.alloc HT.out _
      have hb1 : l.length + 1 ≤ 1000000000000 := by omega
      have hB1 : w.heap.size ≤ (wr.alloc (.cells #[.int .u8 (c.toNat : Int)] 5)).heap.size := by simp; omega
      clear HL hc hcn
      have tok : True := trivial
      go_wp2_with (have _t := tok; at_builtin; (refine wpList_appendM _ rfl (.tmp 15) (.tmp 18) 33 rfl w.heap.size 5 i0 Tryd.underlying33 HI.out HZ.out HS.out HBY.out u3 _ _ rfl HOA.out ⟨wr.heap.size, 0, none⟩ 1 1 [.int .u8 (c.toNat : Int)] rfl rfl (World.news_of_block (heap_new _ _)) (by simp [Value.oneCell']) hb1 hB1 ?_; intro v4 w4 hown4 hst4; clear tok))
      go_ret
      refine ⟨v4, rfl, ?_, (HSt.out.alloc hsz _).trans (hst4.below (by simp; omega) (fun k hk => (OwnM.lt HOA.out k hk).1))⟩
      rw [HNX.out]; exact txt_one hown4

theorem most_any (x y : Int) (w : World) : Calls Tryd.prog 19 #[.int .i64 x, .int .i64 y] w fun e w' => e = .returned (.int .i64 (max x y)) ∧ w' = w := by
  by_cases h : x < y
  · go_enter Tryd.func19, Tryd.ntmps19
    go_wp2
    go_ret
    exact ⟨ret_int (by omega), rfl⟩
  · go_enter Tryd.func19, Tryd.ntmps19
    go_wp2
    go_ret
    exact ⟨ret_int (by omega), rfl⟩
/-- a gate's two numbers -/
def pkT (own : Int) (d : AndD) : List UInt8 := sevenT (own - max d.x d.y).toNat ++ sevenT (max d.x d.y - min d.x d.y).toNat

set_option maxRecDepth 100000 in
set_option maxHeartbeats 8000000 in
theorem appendGate_bytes (B : Nat) (w : World) (v : Value) (t : List UInt8) (h : Txt B w v t) (hB : B ≤ w.heap.size) (hl : t.length ≤ 50000000) (own : Int) (d : AndD) (ho : 0 ≤ own ∧ own < 4294967296) (h0 : 0 ≤ d.x) (h1 : d.x < own) (h2 : 0 ≤ d.y) (h3 : d.y < own) :
    Calls Tryd.prog 29 #[v, .int .i64 1, .int .i64 own, .agg #[.int .i64 d.x, .int .i64 d.y]] w fun e w' => ∃ v', e = .returned v' ∧ Txt B w' v' (t ++ pkT own d) ∧ Step w v w' v' := by
  obtain ⟨x, y⟩ := d
  simp only at h0 h1 h2 h3
  have HTX := hidden h
  obtain ⟨a, ha⟩ : ∃ a : Nat, (a : Int) = own - max x y := ⟨(own - max x y).toNat, by omega⟩
  obtain ⟨b, hb⟩ : ∃ b : Nat, (b : Int) = max x y - min x y := ⟨(max x y - min x y).toNat, by omega⟩
  have HPK : Hid (pkT own ⟨x, y⟩ = sevenT a ++ sevenT b) := by
    show _ = _
    unfold pkT
    simp only
    rw [← ha, ← hb]; rfl
  have eA : IntKind.i64.wrap (own - max x y) = (a : Int) := by rw [wrapI _ (by omega) (by omega)]; omega
  have eB : IntKind.i64.wrap (max x y - min x y) = (b : Int) := by rw [wrapI _ (by omega) (by omega)]; omega
  have HA := hidden ha
  have HB' := hidden hb
  have hab : a < 4294967296 ∧ b < 4294967296 := by omega
  clear h ha hb
  go_enter Tryd.func29, Tryd.ntmps29
  go_upto_region 3 with fail
  generalize hW : World.alloc w _ = W
  have HB : Hid (Below w.heap.size w W) := by rw [← hW]; exact (Below.refl _ _).alloc (Nat.le_refl _) _
  have c0 : W.cell? ⟨w.heap.size, 0, none⟩ = some (.int .i64 x) := by rw [← hW]; exact cell_new rfl
  have c1 : W.cell? ⟨w.heap.size, 1, none⟩ = some (.int .i64 y) := by rw [← hW]; exact cell_new rfl
  clear hW
  go_quiet (fail)
  generalize hW2 : World.drewN W _ = W2
  have HB2 : Hid (Below w.heap.size w W2) := by rw [← hW2]; exact Below.drewN HB.out _
  have hs2 := HB2.out.size
  generalize max x y = mx at *
  generalize min x y = mn at *
  have A1 : Hid (Calls Tryd.prog 33 #[v, .int .i64 (a : Int)] W2 fun e w' => ∃ v', e = .returned v' ∧ Txt B w' v' (t ++ sevenT a) ∧ Step W2 v w' v') := appendPacked_any B W2 v t (HTX.out.to HB2.out) (by omega) (by omega) a hab.1
  have hsl := seven_len a hab.1
  clear hW2 c0 c1
  go_wp2_with fail
  try rw [show own - mx = (a : Int) from HA.out.symm]
  go_at_call 33
  refine A1.out.mono ?_
  rintro e w3 ⟨v3, rfl, hT3, hS3⟩
  have hs3 := hS3.1.size
  have A2 : Hid (Calls Tryd.prog 33 #[v3, .int .i64 (b : Int)] w3 fun e w' => ∃ v', e = .returned v' ∧ Txt B w' v' (t ++ sevenT a ++ sevenT b) ∧ Step w3 v3 w' v') := appendPacked_any B w3 v3 _ hT3 (by omega) (by rw [List.length_append]; omega) b hab.2
  have HS3 := hidden hS3
  clear hT3 hS3 A1
  go_wp2_with fail
  try rw [show mx - mn = (b : Int) from HB'.out.symm]
  go_at_call 33
  refine A2.out.mono ?_
  rintro e w4 ⟨v4, rfl, hT4, hS4⟩
  go_wp2
  go_ret
  refine ⟨v4, rfl, ?_, ((Step.same HB2.out).trans HS3.out).trans hS4⟩
  rw [HPK.out, ← List.append_assoc]; exact hT4

end Go.Proofs.YtmifbcpinhpnnaaDoor
