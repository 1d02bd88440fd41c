import Derived.Test.YtibjgoigdajkkaaDoorJ32
namespace Go.Proofs.YtibjgoigdajkkaaDoor
open Go.RowKit

theorem own_nats {w : World} {C : Nat} {e : TypeId} {v : Value} {n : Nat} {l : List Nat} (h : w.ownsRow C e 1 v n (l.map natV)) : ∃ a c, v = .slice a l.length c ∧ n = l.length ∧ ∀ k y, l[k]? = some y → ∃ b o, a = some ⟨b, o, none⟩ ∧ b < w.heap.size ∧ w.cell? ⟨b, o + k, none⟩ = some (.int .i64 (y : Nat)) := by
  obtain ⟨h1, a, c, h2, h3⟩ := ownRow h
  subst h1
  refine ⟨a, c, h2, rfl, fun k y hy => ?_⟩
  obtain ⟨b, o, ha, hlt, hc⟩ := h3.el hy
  exact ⟨b, o, ha, hlt, (congrArg (fun m => w.cell? ⟨b, o + m, none⟩) (Nat.mul_one k).symm).trans (hc 0 _ rfl)⟩
set_option maxRecDepth 100000 in
set_option maxHeartbeats 8000000 in
theorem taken_any (w : World) (pb nb mb nm B : Nat) (S : NtS) (N : NtD) (f : Int → Option Int) (s F tt : Nat) (hp : w.cell? ⟨pb, 0, none⟩ = some (.pointer (some ⟨nb, 0, none⟩))) (hx : BoxAt w nb S N) (hN : NtAt B w S N) (hB : B ≤ w.heap.size) (hin : NtIn N) (hF : N.first = F) (htt : F + N.tabs.length = tt) (ht : tt ≤ 4000000) (hM : MAt w mb nm f) (hf : ∀ s x, f s = some x → 0 ≤ x ∧ x ≤ 4000000) (hs : s < tt) :
    Calls Tryd.prog 37 #[.pointer (some ⟨pb, 0, none⟩), .int .i64 (s : Int), .map (some mb)] w fun e w' => ∃ v, e = .returned v ∧ w'.ownsRow w.heap.size 3 1 v (tkN f (insS N F s)).length ((tkN f (insS N F s)).map natV) ∧ Below w.heap.size w w' := by
  have hpl := World.block_lt_of_cell? w _ hp
  have hli := hN.li
  have HC : Hid (∀ v : World, Below w.heap.size w v → v.cell? ⟨pb, 0, none⟩ = some (.pointer (some ⟨nb, 0, none⟩)) ∧ v.cell? ⟨nb, 2, none⟩ = some (.slice S.a2 N.tabs.length S.c2) ∧ MAt v mb nm f ∧ NtAt B v S N) := fun v hv => by
    exact ⟨(hv.cell (p := ⟨pb, 0, none⟩) hpl).trans hp, (hx.to hx.lt hv).c2, hM.heap (hv.block mb hM.lt), hN.to (hv.mono hB)⟩
  have HFT : Hid (∀ v : World, Below w.heap.size w v → Calls Tryd.prog 38 #[.pointer (some ⟨nb, 0, none⟩)] v fun e w' => e = .returned (.int .i64 (F : Int)) ∧ ∃ n, w' = v.drewN n) := fun v hv => by
    rw [← hF]; exact pfirst_any v nb S N (hx.to hx.lt hv) hin.i0 hin.i1 hli
  have HIN := hidden hin
  have HF := hidden hf
  have HFF := hidden hF
  clear hN hM hx hin hf hF hpl
  by_cases hsF : s < F
  · have hsI : (s : Int) < (F : Int) := by omega
    have HE : Hid (insS N F s = []) := by show _ = _; unfold insS; rw [if_pos hsF]
    have FT := hidden (HFT.out w (Below.refl _ _))
    go_enter Tryd.func37, Tryd.ntmps37
    go_wp2_with fail
    go_at_call 38
    refine FT.out.mono ?_
    rintro e v ⟨rfl, q, hv⟩
    rw [hv]
    clear hv v
    go_wp2
    go_ret
    refine ⟨_, rfl, ?_, Below.drewN (Below.refl _ _) _⟩
    rw [HE.out]
    exact ⟨rfl, Or.inl ⟨rfl, rfl⟩⟩
  · have hsI : ¬ (s : Int) < (F : Int) := by omega
    obtain ⟨ti, Eti⟩ := exh (s - F)
    have htl : ti < N.tabs.length := by rw [Eti.out]; omega
    obtain ⟨d, hd⟩ := getElem_lt htl
    have HE : Hid (insS N F s = d.ins) := by
      show _ = _
      unfold insS tabOf
      rw [if_neg hsF, ← Eti.out, getD_of hd]
    have hd4 := (HIN.out.t4 d (List.mem_of_getElem? hd)).1
    have HDS : Hid (∀ x, x ∈ d.ins → 0 ≤ x ∧ x < 4000000) := fun x hx => by
      have := HIN.out.ti ti d hd x hx
      rw [HFF.out] at this
      omega
    have e3 : IntKind.i64.wrap ((s : Int) - (F : Int)) = (ti : Int) := by rw [wrapI _ (by omega) (by omega)]; have := Eti.out; omega
    obtain ⟨tl, Etl⟩ := exh N.tabs.length
    rw [← Etl.out] at htl HC
    have htI : (ti : Int) < (tl : Int) := by omega
    have FT := hidden (HFT.out w (Below.refl _ _))
    obtain ⟨da, Eda⟩ := exh d.a
    obtain ⟨dl, Edl⟩ := exh d.ins.length
    rw [← Edl.out] at hd4
    have HT : Hid (∃ tbb o2, S.a2 = some ⟨tbb, o2, none⟩ ∧ ∀ v : World, Below w.heap.size w v → v.cell? ⟨tbb, o2 + ti * 2, none⟩ = some (.slice da dl d.c)) := by
      obtain ⟨tbb, o2, ea, hlt2, htc⟩ := (HC.out w (Below.refl _ _)).2.2.2.t.el hd
      refine ⟨tbb, o2, ea, fun v hv => (hv.cell (p := ⟨tbb, o2 + ti * 2, none⟩) (Nat.lt_of_lt_of_le hlt2 hB)).trans ?_⟩
      rw [Eda.out, Edl.out]
      exact htc 0 _ rfl
    have HDI : Hid (∀ v : World, Below w.heap.size w v → ∀ k x, d.ins[k]? = some x → ∃ b o, da = some ⟨b, o, none⟩ ∧ v.cell? ⟨b, o + k, none⟩ = some (.int .i64 x)) := fun v hv k x hk => by
      obtain ⟨b, o, h1, _, h3⟩ := ((HC.out v hv).2.2.2.ti d (List.mem_of_getElem? hd)).int hk
      exact ⟨b, o, by rw [Eda.out]; exact h1, h3⟩
    obtain ⟨tbb, o2, ea2, htc⟩ := HT.out
    have HTC := hidden htc
    obtain ⟨L, EL⟩ := exh d.ins
    rw [← EL.out] at HE HDS HDI Edl
    obtain ⟨id, hid, hz2, hs2, hby2⟩ := info_int
    have HI2 := hidden hid
    have HZ2 := hidden hz2
    have HSI2 := hidden hs2
    have HBY2 := hidden hby2
    clear hid hz2 hs2 hby2 htc HT
    clear hd
    go_enter Tryd.func37, Tryd.ntmps37
    go_wp2_with fail
    go_at_call 38
    refine FT.out.mono ?_
    rintro e v ⟨rfl, q, hv⟩
    rw [hv]
    clear hv v FT
    have HB1 : Hid (Below w.heap.size w (w.drewN q)) := Below.drewN (Below.refl _ _) _
    generalize w.drewN q = w1 at *
    go_upto_region 4 with fail
    obtain ⟨p0, n2, -, -⟩ := HC.out w1 HB1.out
    rw [ea2] at n2
    have tc := HTC.out w1 HB1.out
    have FT := hidden (HFT.out w1.drew (Below.drew HB1.out))
    refine wp_region_noPanic ?_
    refine wp_region_held_drew (S := fun v => v.cell? ⟨pb, 0, none⟩ = some (.pointer (some ⟨nb, 0, none⟩)) ∧ v.cell? ⟨nb, 2, none⟩ = some (.slice (some ⟨tbb, o2, none⟩) tl S.c2) ∧ v.cell? ⟨tbb, o2 + ti * 2, none⟩ = some (.slice da dl d.c)) (by kernel_rfl) (by exact ⟨p0, n2, tc⟩) (fun hHeld => ?_)
    refine tk 0 ?_
    refine tk 1 ?_
    refine tk 2 ?_
    refine tk 3 ?_
    refine tk 4 ?_
    refine tk 5 ?_
    refine tk 6 ?_
    refine tk 7 ?_
    refine tk 8 ?_
    refine tk 9 ?_
    refine tk 10 ?_
    refine tk 11 ?_
    refine tk 18 ?_
    refine rd 12 fun K hK => ?_
    (try simp only [gA, gB, gC]); go_simp
    go_at_call 38
    refine FT.out.mono ?_
    rintro e v ⟨rfl, q, hv⟩
    rw [hv]
    clear hv v FT
    go_wp2_with fail
    refine wo hK hHeld fun hHeld2 => ?_
    clear hK K
    refine tk 13 ?_
    refine tk 14 ?_
    refine tk 15 ?_
    refine tk 16 ?_
    refine tk 17 ?_
    refine wpAnyH_done (by kernel_rfl) ?_ _
    refine NoPanic.normal ?_
    clear hHeld hHeld2 p0 n2 tc
    have HB2 : Hid (Below w.heap.size w (w1.drewN (1 + q))) := Below.drewN HB1.out (1 + q)
    clear HB1
    go_wp2_with fail
    go_loopw [7, 9, 10, 11, 37] (fun v' _ _ _ i' w' => ∃ k : Nat, k ≤ dl ∧ i' = .int .i64 (k : Int) ∧ Hid (w'.ownsRow w.heap.size 3 1 v' (tkN f (L.take k)).length ((tkN f (L.take k)).map natV)) ∧ Hid (Below w.heap.size w w')) (fun _ _ _ _ i' _ => dl - (intOf i').toNat)
    case atStart => exact ⟨0, Nat.zero_le _, rfl, ⟨rfl, Or.inl ⟨rfl, rfl⟩⟩, HB2.out⟩
    case round =>
      clear HB2
      obtain ⟨k, hk, rfl, HO, HB⟩ := hrel
      by_cases hlt : k < dl
      · have hltI : (k : Int) < (dl : Int) := by omega
        have e2 : IntKind.i64.wrap ((k : Int) + 1) = (k : Int) + 1 := wrapI _ (by omega) (by omega)
        obtain ⟨x, hx⟩ := getElem_lt (show k < L.length by rw [← Edl.out]; exact hlt)
        obtain ⟨b, o, ea, cx⟩ := HDI.out wr HB.out k x hx
        obtain ⟨hx0, hx1⟩ := HDS.out x (List.mem_of_getElem? hx)
        obtain ⟨c, hlk, hcv⟩ := (HC.out wr HB.out).2.2.1.lookok (k := x) (wf64 (by omega) (by omega))
        have HSN : Hid (tkN f (L.take (k + 1)) = match f x with | some x => if x.toNat ∈ tkN f (L.take k) then tkN f (L.take k) else tkN f (L.take k) ++ [x.toNat] | none => tkN f (L.take k)) := by
          show _ = _
          rw [take_next _ k _ hx]
          exact tkN_snoc f _ x
        clear hx
        cases hfx : f x with
        | none =>
          rw [hfx] at hlk HSN
          have HO2 : Hid (wr.ownsRow w.heap.size 3 1 u7 (tkN f (L.take (k + 1))).length ((tkN f (L.take (k + 1))).map natV)) := by rw [HSN.out]; exact HO.out
          subst ea
          clear HO HSN hcv
          go_wp2
          go_roundw
          case measure => simp [intOf]; omega
          case rel => exact ⟨k + 1, by omega, by simp, HO2.out, HB.out⟩
        | some y =>
          have hcy : c = y := hcv y hfx
          obtain ⟨hy0, hy1⟩ := HF.out x y hfx
          obtain ⟨m, hm⟩ : ∃ m : Nat, y = m := ⟨y.toNat, by omega⟩
          rw [hcy, hm, hfx] at hlk
          rw [hfx, hm] at HSN
          have hm1 : (m : Int) ≤ 4000000 := by omega
          replace HSN : Hid (tkN f (L.take (k + 1)) = if m ∈ tkN f (L.take k) then tkN f (L.take k) else tkN f (L.take k) ++ [m]) := HSN
          have hll : (tkN f (L.take k)).length ≤ 4 := Nat.le_trans (tkN_len _ _) (by rw [List.length_take]; omega)
          obtain ⟨la, lc, hu7, -, hrow⟩ := own_nats HO.out
          have HCT := hidden (contains_any wr la lc (tkN f (L.take k)) m (by omega) (fun k y hy => by obtain ⟨b, o, h1, _, h3⟩ := hrow k y hy; exact ⟨b, o, h1, h3⟩))
          obtain ⟨A, EA⟩ := exh (tkN f (L.take k))
          rw [← EA.out] at HSN hll HO HCT hu7
          obtain ⟨ll, Ell⟩ := exh A.length
          rw [← Ell.out] at hll HO HCT hu7
          subst ea
          subst hu7
          clear hcy hcv hfx hm hrow hy0 hy1
          by_cases hmem : m ∈ A
          · rw [if_pos hmem] at HSN
            have HO2 : Hid (wr.ownsRow w.heap.size 3 1 (.slice la ll lc) (tkN f (L.take (k + 1))).length ((tkN f (L.take (k + 1))).map natV)) := by
              rw [HSN.out, ← Ell.out]; exact HO.out
            rw [decide_eq_true hmem] at HCT
            clear HO HSN hmem
            go_wp2_with fail
            go_at_call 53
            refine HCT.out.mono ?_
            rintro e v ⟨rfl, hv⟩
            rw [hv]
            clear hv v HCT hlk
            go_wp2
            go_roundw
            case measure => simp [intOf]; omega
            case rel => exact ⟨k + 1, by omega, by simp, HO2.out, HB.out⟩
          · rw [if_neg hmem] at HSN
            rw [decide_eq_false hmem] at HCT
            have hsz := HB.out.size
            have hm1 : ll + 1 ≤ maxLen := by simp only [maxLen]; omega
            have hm2 : (ll + 1) * 8 ≤ 140737488355328 := by omega
            have hm3 : w.heap.size ≤ (wr.alloc (.cells #[.int .i64 (m : Int)] 3)).heap.size := by simp; omega
            clear hmem
            go_wp2_with fail
            go_at_call 53
            refine HCT.out.mono ?_
            rintro e v ⟨rfl, hv⟩
            rw [hv]
            clear hv v HCT hlk
            have tok : True := trivial
            go_wp2_with (have _t := tok; at_builtin; (refine wpList_append_lies _ rfl (.tmp 54) (.tmp 56) 24 rfl w.heap.size 3 id _ 1 8 Tryd.underlying24 HI2.out HZ2.out HSI2.out HBY2.out rfl (by decide) (.slice la ll lc) ll _ rfl (HO.out.alloc _) ⟨wr.heap.size, 0, none⟩ 1 1 [.int .i64 (m : Int)] rfl rfl (World.news_of_block (heap_new _ _)) (by simp [Value.oneCell']) (by decide) hm1 hm2 hm3 _ rfl ?_; intro g5 cap w5 hown hgrow hat5 hlt5; clear tok))
            have HO5 : Hid (w5.ownsRow w.heap.size 3 1 (.slice (some ⟨g5, 0, none⟩) (ll + 1) cap) (tkN f (L.take (k + 1))).length ((tkN f (L.take (k + 1))).map natV)) := by
              show World.ownsRow _ _ _ _ _ _ _
              rw [HSN.out, List.map_append, List.length_append, ← Ell.out]
              exact hown
            have HB5 : Hid (Below w.heap.size w w5) := grown_plain HB.out HO.out hgrow
            clear hown hgrow hat5 hlt5 HO HB HSN
            go_roundw
            case measure => simp [intOf]; omega
            case rel => exact ⟨k + 1, by omega, by simp, HO5.out, HB5.out⟩
      · obtain rfl : k = dl := by omega
        have hge : ¬ (k : Int) < (k : Int) := by omega
        have HO2 : Hid (wr.ownsRow w.heap.size 3 1 u7 (tkN f (insS N F s)).length ((tkN f (insS N F s)).map natV)) := by
          have := HO.out
          rw [List.take_of_length_le (by rw [← Edl.out]; exact Nat.le_refl _)] at this
          rw [HE.out]
          exact this
        clear HO
        go_wp2
        go_ret
        exact ⟨_, rfl, HO2.out, HB.out⟩


end Go.Proofs.YtibjgoigdajkkaaDoor
