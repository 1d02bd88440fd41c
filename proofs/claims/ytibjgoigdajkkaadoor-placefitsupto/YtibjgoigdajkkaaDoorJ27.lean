import Derived.Test.YtibjgoigdajkkaaDoorJ26
namespace Go.Proofs.YtibjgoigdajkkaaDoor
open Go.RowKit

theorem made_sl (n : Nat) : (madeCells (Value.slice none 0 0).cells (n * 1)).toList = tabL n fun _ => Value.slice none 0 0 := by
  rw [Nat.mul_one]
  apply List.ext_getElem?
  intro i
  by_cases h : i < n
  · rw [tabL_get h]; simp [madeCells, Value.cells, h, Nat.mod_one]
  · rw [List.getElem?_eq_none (by simp [madeCells]; omega), List.getElem?_eq_none (by rw [tabL_len]; omega)]
theorem info_ints0 : (Tryd.prog.info? 24).map (fun i => (i.zero, i.size, i.bytes)) = some (some (.slice none 0 0), 1, 24) := by kernel_rfl
theorem info_ints : ∃ i, Tryd.prog.info? 24 = some i ∧ i.zero = some (.slice none 0 0) ∧ i.size = 1 ∧ i.bytes = 24 := by
  have h := info_ints0
  cases hi : Tryd.prog.info? 24 with
  | none => rw [hi] at h; simp at h
  | some i => rw [hi] at h; simp at h; exact ⟨i, rfl, h.1, h.2.1, h.2.2⟩
theorem heldM_start (D : PnS) (T : PnT) (k : Nat) : heldM D T k (T.col k).toNat = heldK D T k := by
  funext c; unfold heldM; rw [if_neg (by omega)]
theorem heldM_next (D : PnS) (T : PnT) (k m : Nat) (h : (T.col k).toNat ≤ m) : upd (heldM D T k m) m (heldK D T k m ++ [k]) = heldM D T k (m + 1) := by
  funext c
  unfold upd heldM
  by_cases e : c = m
  · rw [if_pos e, e, if_pos ⟨h, by omega⟩]
  · rw [if_neg e]
    by_cases h2 : (T.col k).toNat ≤ c ∧ c < m
    · rw [if_pos h2, if_pos (by omega)]
    · rw [if_neg h2, if_neg (by omega)]
theorem heldM_at (D : PnS) (T : PnT) (k m : Nat) : heldM D T k m m = heldK D T k m := by unfold heldM; rw [if_neg (by omega)]
theorem heldM_end (D : PnS) (T : PnT) (k m : Nat) (h2 : untilN D T k ≤ m) (h3 : m = (T.col k).toNat ∨ m ≤ untilN D T k) : heldM D T k m = heldK D T (k + 1) := by
  funext c
  rw [heldK_next]
  unfold heldM heldB
  by_cases e : (T.col k).toNat ≤ c ∧ c < untilN D T k
  · rw [if_pos (by omega), if_pos (decide_eq_true e)]
  · rw [if_neg (by omega), if_neg (by simpa using e), List.append_nil]
set_option maxRecDepth 100000 in
set_option maxHeartbeats 8000000 in
theorem held_any (D : PnS) (T : PnT) (w : World) (h : PlAt D w T) :
    Calls Tryd.prog 44 #[.pointer (some ⟨D.pb, 0, none⟩)] w fun e w' => e = .returned (.slice (some ⟨w.heap.size, 0, none⟩) D.cc D.cc) ∧ (∃ vs, HdAt w' w.heap.size w.heap.size D.cc vs (heldK D T D.n)) ∧ Below w.heap.size w w' := by
  have hns := h.bs.nn
  have hcc := h.bs.cc
  obtain ⟨pb, Epb⟩ := exh D.pb
  obtain ⟨n, En⟩ := exh D.n
  obtain ⟨cc, Ecc⟩ := exh D.cc
  obtain ⟨ia, Eia⟩ := exh D.ia
  obtain ⟨C0, EC⟩ := exh w.heap.size
  have HC : Hid (∀ v : World, Below w.heap.size w v → v.cell? ⟨pb, 6, none⟩ = some (.slice ia n D.icap) ∧ v.cell? ⟨pb, 5, none⟩ = some (.int .i64 (cc : Int)) ∧ ∀ i, i < n → Calls Tryd.prog 63 #[.pointer (some ⟨pb, 0, none⟩), .int .i64 (i : Int)] v (fun e w' => e = .returned (.int .i64 ((T.col i).toNat : Int)) ∧ w' = v) ∧ Calls Tryd.prog 62 #[.pointer (some ⟨pb, 0, none⟩), .int .i64 (i : Int)] v (fun e w' => e = .returned (.int .i64 (untilN D T i : Nat)) ∧ w' = v) ∧ (T.col i).toNat ≤ cc ∧ untilN D T i ≤ cc) := fun v hv => by
    have hp := h.below hv
    rw [Epb.out, En.out, Ecc.out, Eia.out]
    refine ⟨hp.bs.c6, by rw [← hcc.1]; exact hp.bs.c5, fun i hi => ⟨from_any D T v hp i hi, until_any D T v hp i hi, by have := (h.col i hi).2; omega, untilN_le (h.col i hi).2⟩⟩
  obtain ⟨ic, hic, hz, hs, hby⟩ := info_ints
  have HI := hidden hic
  have HZ := hidden hz
  have HSI := hidden hs
  have hcc2 : cc ≤ 100 := by rw [Ecc.out]; omega
  have hmkb : ic.bytes * cc ≤ 281474976710656 := by rw [hby]; omega
  have hmx : cc ≤ maxLen := by simp only [maxLen]; omega
  obtain ⟨id, hid, hz2, hs2, hby2⟩ := info_int
  have HI2 := hidden hid
  have HZ2 := hidden hz2
  have HSI2 := hidden hs2
  have HBY2 := hidden hby2
  obtain ⟨c6, c5, -⟩ := HC.out w (Below.refl _ _)
  rw [← En.out] at hns
  rw [← Epb.out, ← Ecc.out, ← En.out, ← EC.out]
  clear h hic hz hs hby hid hz2 hs2 hby2 hcc
  have tok : True := trivial
  go_enter Tryd.func44, Tryd.ntmps44
  go_upto_region 2 with (have _t := tok; at_make; (refine wpList_make_full _ rfl (.tmp 11) (.tmp 11) 93 rfl w.heap.size 24 ic _ 1 Tryd.underlying93 HI.out HZ.out HSI.out .i64 .i64 (cc : Int) (cc : Int) cc rfl rfl rfl rfl hmkb hmx (Nat.le_refl _) ?_; intro w1 hown1 hgrow1; have HB1 := hidden (none_below hgrow1); have HOM := hidden (full_blk hown1); clear tok hown1 hgrow1))
  rw [← EC.out]
  have HD1 : Hid (HdAt w1 C0 C0 cc (fun _ => .slice none 0 0) (heldK D T 0)) := by
    have := HOM.out
    rw [made_sl, ← EC.out] at this
    exact ⟨Nat.le_refl _, this, fun c _ => ⟨rfl, Or.inl ⟨rfl, rfl⟩⟩, fun c _ => by simp [Value.ownBlock], fun c d _ _ _ g hg => by simp [Value.ownBlock] at hg⟩
  obtain ⟨d6, -, -⟩ := HC.out w1 HB1.out
  clear HOM c6 c5
  go_wp2_with fail
  clear d6
  go_loopw [4, 5, 6, 18] (fun _ _ _ i' w' => ∃ (k : Nat) (vs : Nat → Value), k ≤ n ∧ i' = .int .i64 (k : Int) ∧ Hid (HdAt w' C0 C0 cc vs (heldK D T k)) ∧ Hid (Below w.heap.size w w')) (fun _ _ _ i' _ => n - (intOf i').toNat)
  case atStart => exact ⟨0, _, Nat.zero_le _, rfl, HD1.out, HB1.out⟩
  case round =>
    clear HD1 HB1
    obtain ⟨k, vs, hk, rfl, HD, HB⟩ := hrel
    by_cases hlt : k < n
    · have hltI : (k : Int) < (n : Int) := by omega
      obtain ⟨FR, UN, hf1, hu1⟩ := (HC.out wr HB.out).2.2 k hlt
      obtain ⟨f, Ef⟩ := exh (T.col k).toNat
      obtain ⟨u, Eu⟩ := exh (untilN D T k)
      rw [← Ef.out] at FR hf1
      rw [← Eu.out] at UN hu1
      replace FR := hidden FR
      replace UN := hidden UN
      have HD2 : Hid (HdAt wr C0 C0 cc vs (heldM D T k f)) := by rw [Ef.out, heldM_start]; exact HD.out
      have HB2 := HB
      clear HD HB
      go_wp2_with fail
      go_at_call 62
      refine UN.out.mono ?_
      rintro e v ⟨rfl, hv⟩
      rw [hv]
      clear hv v
      go_wp2_with fail
      go_at_call 63
      refine FR.out.mono ?_
      rintro e v ⟨rfl, hv⟩
      rw [hv]
      clear hv v FR UN
      go_wp2_with fail
      go_loopw [6] (fun i' w' => ∃ (m : Nat) (vs : Nat → Value), f ≤ m ∧ (m = f ∨ m ≤ u) ∧ m ≤ cc ∧ i' = .int .i64 (m : Int) ∧ Hid (HdAt w' C0 C0 cc vs (heldM D T k m)) ∧ Hid (Below w.heap.size w w')) (fun i' _ => u - (intOf i').toNat)
      case atStart => exact ⟨f, vs, Nat.le_refl _, Or.inl rfl, hf1, rfl, HD2.out, HB2.out⟩
      case round =>
        clear HD2 HB2
        obtain ⟨m, vs, h1, h2, h3, rfl, HD, HB⟩ := hrel
        by_cases hmt : m < u
        · have hmI : (m : Int) < (u : Int) := by omega
          have hmc : m < cc := by omega
          have hmcI : (m : Int) < (cc : Int) := by omega
          have cx := HD.out.bk.cell (tab_get hmc)
          have cf := HD.out.bk.frozen m
          have HO := hidden (HD.out.rw_ m hmc)
          rw [heldM_at] at HO
          have hle := heldK_len D T k m
          obtain ⟨ll, Ell⟩ := exh (heldK D T k m).length
          rw [← Ell.out] at HO hle
          have hm1 : ll + 1 ≤ maxLen := by simp only [maxLen]; omega
          have hm2 : (ll + 1) * 8 ≤ 140737488355328 := by omega
          have hm3 : C0 ≤ (wr.alloc (.cells #[.int .i64 (k : Int)] 3)).heap.size := by rw [EC.out]; exact Nat.le_trans HB.out.size (by simp)
          have HAL : Hid (Below wr.heap.size wr (wr.alloc (.cells #[.int .i64 (k : Int)] 3))) := (Below.refl _ _).alloc (Nat.le_refl _) _
          have e2 : IntKind.i64.wrap ((m : Int) + 1) = (m : Int) + 1 := wrapI _ (by omega) (by omega)
          obtain ⟨v, Ev⟩ := exh (vs m)
          rw [← Ev.out] at cx HO
          have e9 : (heldM D T k m m).length = ll := by rw [heldM_at, Ell.out]
          have HPU : Hid (∀ (g cap : Nat) (w5 : World), w5.ownsRow C0 3 1 (.slice (some ⟨g, 0, none⟩) (ll + 1) cap) (ll + 1) ((heldK D T k m).map natV ++ [.int .i64 (k : Int)]) → (wr.alloc (.cells #[.int .i64 (k : Int)] 3)).grownBy w5 v.ownBlock → (v.ownBlock = some g ∨ g = (wr.alloc (.cells #[.int .i64 (k : Int)] 3)).heap.size) → ((∃ old, w5.cell? ⟨C0, m, none⟩ = some old) ∧ w5.frozen? ⟨C0, m, none⟩ = false) ∧ Hid (HdAt (w5.setCell ⟨C0, m, none⟩ (.slice (some ⟨g, 0, none⟩) (ll + 1) cap)) C0 C0 cc (upd vs m (.slice (some ⟨g, 0, none⟩) (ll + 1) cap)) (heldM D T k (m + 1))) ∧ Hid (Below w.heap.size w (w5.setCell ⟨C0, m, none⟩ (.slice (some ⟨g, 0, none⟩) (ll + 1) cap)))) := fun g cap w5 ho hg hw => by
            rw [Ev.out] at hg hw
            have hp := HD.out.push (i := k) (w5 := w5) (g := g) (cap := cap) hmc (by rw [EC.out]; exact HB.out.size) HAL.out hg (by rw [e9, heldM_at]; exact ho) hw
            rw [e9, heldM_at, heldM_next D T k m (by rw [← Ef.out]; exact h1)] at hp
            have hbk : Blk w5 C0 24 (tabL cc vs).toArray := (hg.block C0 (Nat.lt_of_lt_of_le HD.out.bk.lt HAL.out.size) (fun e => HD.out.ne m hmc e.symm)).trans (HD.out.bk.below HAL.out)
            refine ⟨⟨⟨_, hbk.cell (tab_get hmc)⟩, hbk.frozen m⟩, hp.1, HB.out.trans ?_⟩
            rw [← EC.out]
            exact hp.2
          have tok : True := trivial
          clear HD
          go_wp2_with (have _t := tok; at_builtin; (refine wpList_append_lies _ rfl (.tmp 37) (.tmp 39) 24 rfl C0 3 id _ 1 8 Tryd.underlying24 HI2.out HZ2.out HSI2.out HBY2.out rfl (by decide) v ll _ rfl (HO.out.alloc _) ⟨wr.heap.size, 0, none⟩ 1 1 [.int .i64 (k : Int)] rfl rfl (World.news_of_block (heap_new _ _)) (by simp [Value.oneCell']) (by decide) hm1 hm2 hm3 _ rfl ?_; intro g cap w5 hown hgrow hat5 hlt5; obtain ⟨⟨⟨old, cold⟩, cfr⟩, HD6, HB6⟩ := HPU.out g cap w5 hown hgrow hat5; clear tok hown hgrow hat5 hlt5 HPU))
          go_roundw
          case measure => simp [intOf]; omega
          case rel => exact ⟨m + 1, _, by omega, Or.inr (by omega), by omega, by simp, HD6.out, HB6.out⟩
        · have hmI : ¬ (m : Int) < (u : Int) := by omega
          have HD3 : Hid (HdAt wr C0 C0 cc vs (heldK D T (k + 1))) := by
            rw [← heldM_end D T k m (by rw [← Eu.out]; omega) (by rw [← Ef.out, ← Eu.out]; exact h2)]
            exact HD.out
          have e2 : IntKind.i64.wrap ((k : Int) + 1) = (k : Int) + 1 := wrapI _ (by omega) (by omega)
          clear HD
          go_wp2
          go_roundw
          case measure => simp [intOf]; omega
          case rel => exact ⟨k + 1, vs, by omega, by simp, HD3.out, HB.out⟩
    · obtain rfl : k = n := by omega
      have hge : ¬ (k : Int) < (k : Int) := by omega
      have HB3 : Hid (Below C0 w wr) := by rw [EC.out]; exact HB.out
      go_wp2
      go_ret
      exact ⟨rfl, ⟨vs, HD.out⟩, HB3.out⟩


end Go.Proofs.YtibjgoigdajkkaaDoor
