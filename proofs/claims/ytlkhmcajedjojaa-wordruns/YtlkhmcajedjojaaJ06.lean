import Derived.Test.YtlkhmcajedjojaaJ05
namespace Go.Proofs.Ytlkhmcajedjojaa
open Go.RowKit

set_option maxRecDepth 100000 in
set_option maxHeartbeats 16000000 in
theorem nodeValid_restA (B : Nat) (w : World) (S : NetS) (N : NetD) (h : NetAt B w S N) (hB : B ≤ w.heap.size) (i : Nat) (d : NodeD) (hd : N.nodes[i]? = some d) (ho : ¬ nodeOut d) (hp : Hid (∀ j y, j < i → N.nodes[j]? = some y → 1 ≤ y.width ∧ y.width ≤ 32)) (hA : 0 ≤ wantOf d.kind) (r : Bool) (HR : Hid (r = if d.args.any (badArg i) then false else nodeEnd N d)) :
    Calls Try.prog 20 #[.agg (S.cells N), .int .i64 i] w fun e w' => e = .returned (.bool r) ∧ Below w.heap.size w w' := by
  unfold NetS.cells
  obtain ⟨b, o, ha, hlt, hc⟩ := h.n.el hd
  have hi : i < N.nodes.length := by
    rcases Nat.lt_or_ge i N.nodes.length with h' | h'
    · exact h'
    · rw [List.getElem?_eq_none h'] at hd; cases hd
  have c0 : w.cell? ⟨b, o + i * 4, none⟩ = _ := hc 0 _ rfl
  have c1 := hc 1 _ rfl
  have c2 := hc 2 _ rfl
  have c3 := hc 3 _ rfl
  have hb : b < w.heap.size := Nat.lt_of_lt_of_le hlt hB
  have hiI : (i : Int) < (N.nodes.length : Int) := by omega
  have HAT : Hid (NetAt B w S N) := h
  have hna := h.na d (List.mem_of_getElem? hd)
  have WD : Hid (∀ w, Calls Try.prog 18 #[.int .i64 d.width] w fun e w' => e = .returned (.bool true) ∧ w' = w) := by
    have := fun w => width_any d.width w
    have e : widthOk d.width = true := by cases he : widthOk d.width with
      | true => rfl
      | false => exact absurd (.inl he) ho
    rw [e] at this; exact this
  have hwd : 1 ≤ d.width ∧ d.width ≤ 32 := by
    have e : widthOk d.width = true := by cases he : widthOk d.width with
      | true => rfl
      | false => exact absurd (.inl he) ho
    simpa [widthOk] using e
  have WT : Hid (∀ w, Calls Try.prog 30 #[.int .i64 d.kind] w fun e w' => e = .returned (.int .i64 (wantOf d.kind)) ∧ w' = w) := fun w => want_any d.kind w
  have hk : wantOf d.kind ≠ -2 := fun e => ho (.inr (.inl e))
  have hk1 : 0 ≤ wantOf d.kind → (d.args.length : Int) = wantOf d.kind := fun e => Classical.byContradiction fun e2 => ho (.inr (.inr (.inl ⟨e, e2⟩)))
  have hk2 : wantOf d.kind = -1 → d.args.length ≠ 0 := fun e e2 => ho (.inr (.inr (.inr ⟨e, e2⟩)))
  have hk3 : -2 ≤ wantOf d.kind := by unfold wantOf; repeat' split
                                      all_goals omega
  rw [ha]
  have HA1 := hidden ha
  have HD := hidden hd
  clear ha hc h hd ho
  obtain ⟨kind, width, num, args, aa, ac⟩ := d
  simp only at c0 c1 c2 c3 WD WT hna hwd hk hk1 hk2 hk3 HR hA
  have HK1 := hidden hk1
  have HK2 := hidden hk2
  have HKK : ∃ K, Hid (wantOf kind = K) := ⟨_, rfl⟩
  obtain ⟨K, HK⟩ := HKK
  rw [HK.out] at WT hk hk1 hk2 hk3 hA
  have hcs : (0 ≤ K ∧ (args.length : Int) = K) ∨ (K = -1 ∧ (args.length : Int) ≠ 0) := by
    by_cases h0 : 0 ≤ K
    · exact .inl ⟨h0, hk1 h0⟩
    · have : K = -1 := by omega
      exact .inr ⟨this, by have := hk2 this; omega⟩
  obtain ⟨i3, hi3, hz3, hs3, hb3⟩ := info_int
  have HI := hidden hi3
  have HZ := hidden hz3
  have HS := hidden hs3
  have HBY := hidden hb3
  have HNA := hidden hna
  clear hk1 hk2 hk3 hi3 hz3 hs3 hb3 hna
  rcases hcs with ⟨h1, h2⟩ | ⟨rfl, h2⟩
  · clear hA
    have hK1 : (K == -1) = false := by simp; omega
    have hK2 : (K == -2) = false := by simp; omega
    go_enter Try.func20, Try.ntmps20
    go_wp2_with (first | (go_at_call 18; refine (WD.out _).mono ?_; rintro e w' ⟨rfl, rfl⟩) | (go_at_call 30; refine (WT.out _).mono ?_; rintro e w' ⟨rfl, rfl⟩))
    have H2 := hidden h2
    clear h2
    generalize hW : (w.alloc (.cells #[.slice S.a0 N.ins.length S.c0, .slice (some ⟨b, o, none⟩) N.nodes.length S.c1, .slice S.a2 N.regs.length S.c2, .slice S.a3 N.mems.length S.c3, .slice S.a4 N.wrs.length S.c4, .slice S.a5 N.outs.length S.c5] 28)).alloc (.cells #[.int .i64 kind, .int .i64 width, .int .u64 num, .slice aa args.length ac] 41) = W
    have HB : Hid (Below w.heap.size w W) := by rw [← hW]; exact ((Below.refl _ _).alloc (Nat.le_refl _) _).alloc (by simp) _
    have hsz : W.heap.size = w.heap.size + 2 := by rw [← hW]; simp
    have QN : Hid (∀ j, W.cell? ⟨w.heap.size, j, none⟩ = (#[.slice S.a0 N.ins.length S.c0, .slice (some ⟨b, o, none⟩) N.nodes.length S.c1, .slice S.a2 N.regs.length S.c2, .slice S.a3 N.mems.length S.c3, .slice S.a4 N.wrs.length S.c4, .slice S.a5 N.outs.length S.c5] : Array Value)[j]?) := by rw [← hW]; intro j; simp
    have QD : Hid (∀ j, W.cell? ⟨w.heap.size + 1, j, none⟩ = (#[.int .i64 kind, .int .i64 width, .int .u64 num, .slice aa args.length ac] : Array Value)[j]?) := by rw [← hW]; intro j; simp
    have HAW : Hid (NetAt B W S N) := HAT.out.to (HB.out.mono hB)
    have HRA : Hid (RowAt B W aa 1 (args.map intC)) := HNA.out.1.to (HB.out.mono hB)
    clear hW c0 c1 c2 c3
    have SZ := hidden hsz
    have hN : w.heap.size < W.heap.size := by omega
    have hD : w.heap.size + 1 < W.heap.size := by omega
    have hbW : b < W.heap.size := by omega
    clear hsz
    go_loopw [8, 9] (fun v i' w' => ∃ (k : Nat), k ≤ args.length ∧ i' = .int .i64 k ∧ Hid (w'.ownsRow W.heap.size 3 1 v k (((wsOf N args).take k).map intV)) ∧ Hid ((args.take k).any (badArg i) = false) ∧ Hid (Below W.heap.size W w')) (fun _ i' _ => args.length - (intOf i').toNat)
    case atStart => exact ⟨0, Nat.zero_le _, rfl, by show World.ownsRow _ _ _ _ _ _ _; simpa using World.ownsRow_nil _ _ _ _, by show _ = _; simp, Below.refl _ _⟩
    case round =>
      obtain ⟨k, hk, rfl, HO, HG, HBr⟩ := hrel
      have q1 : wr.cell? ⟨w.heap.size, 1, none⟩ = some (.slice (some ⟨b, o, none⟩) N.nodes.length S.c1) := (HBr.out.cell (p := ⟨w.heap.size, 1, none⟩) hN).trans (QN.out 1)
      have d3 : wr.cell? ⟨w.heap.size + 1, 3, none⟩ = some (.slice aa args.length ac) := (HBr.out.cell (p := ⟨w.heap.size + 1, 3, none⟩) hD).trans (QD.out 3)
      have hlr : W.heap.size ≤ wr.heap.size := HBr.out.size
      by_cases hltk : k < args.length
      · obtain ⟨ab, ao, rfl, hab, hac⟩ := HRA.out.int hltk
        have ca : wr.cell? ⟨ab, ao + k, none⟩ = some (.int .i64 (at0 args k)) := (HBr.out.cell (p := ⟨ab, ao + k, none⟩) (Nat.lt_of_lt_of_le hab (Nat.le_trans hB HB.out.size))).trans (hac k hltk)
        have hkI : (k : Int) < (args.length : Int) := by omega
        have HX : Hid (args[k]? = some (at0 args k)) := by show _ = _; simp [at0, List.getElem?_eq_getElem hltk]
        generalize at0 args k = x at ca HX
        have habW : ab < W.heap.size := Nat.lt_of_lt_of_le hab (Nat.le_trans hB HB.out.size)
        clear hac
        by_cases hx0 : x < 0
        · have hbad : args.any (badArg i) = true := List.any_eq_true.2 ⟨x, List.mem_of_getElem? HX.out, by simp [badArg, hx0]⟩
          have HBAD := hidden hbad
          clear hbad
          go_wp2
          go_ret
          exact ⟨ret_bool (by rw [HR.out, HBAD.out]; rfl), HB.out.trans (HBr.out.mono HB.out.size)⟩
        · by_cases hx1 : (i : Int) ≤ x
          · have hbad : args.any (badArg i) = true := List.any_eq_true.2 ⟨x, List.mem_of_getElem? HX.out, by simp [badArg, hx1]⟩
            have HBAD := hidden hbad
            clear hbad
            go_wp2
            go_ret
            exact ⟨ret_bool (by rw [HR.out, HBAD.out]; rfl), HB.out.trans (HBr.out.mono HB.out.size)⟩
          · obtain ⟨y, hy⟩ : ∃ y, N.nodes[x.toNat]? = some y := ⟨N.nodes[x.toNat]'(by omega), List.getElem?_eq_getElem (by omega)⟩
            obtain ⟨b', o', hb', hlt', hc'⟩ := HAW.out.n.el hy
            rw [HA1.out] at hb'
            obtain ⟨rfl, rfl⟩ : b = b' ∧ o = o' := by cases hb'; exact ⟨rfl, rfl⟩
            have cw : wr.cell? ⟨b, o + x.toNat * 4 + 1, none⟩ = some (.int .i64 y.width) := (HBr.out.cell (p := ⟨b, o + x.toNat * 4 + 1, none⟩) hbW).trans (hc' 1 _ rfl)
            have HY : Hid ((wsOf N args)[k]? = some y.width) := by show _ = _; simp [wsOf, HX.out, widthAt, hy]
            have hxn : x < (N.nodes.length : Int) := by omega
            have hx0' : (0 : Int) ≤ x := by omega
            clear hc' hb' hy hlt'
            generalize y.width = wd at cw HY
            go_wp2_with fail
            have q1W : W.cell? ⟨w.heap.size, 1, none⟩ = some (.slice (some ⟨b, o, none⟩) N.nodes.length S.c1) := QN.out 1
            have d3W : W.cell? ⟨w.heap.size + 1, 3, none⟩ = some (.slice (some ⟨ab, ao, none⟩) args.length ac) := QD.out 3
            have caW : W.cell? ⟨ab, ao + k, none⟩ = some (.int .i64 x) := (HBr.out.cell (p := ⟨ab, ao + k, none⟩) habW).symm.trans ca
            have cwW : W.cell? ⟨b, o + x.toNat * 4 + 1, none⟩ = some (.int .i64 wd) := (HBr.out.cell (p := ⟨b, o + x.toNat * 4 + 1, none⟩) hbW).symm.trans cw
            have hbig := HNA.out.2.2.2
            simp only [big] at hbig
            have hm1 : k + 1 ≤ maxLen := by simp only [maxLen]; omega
            have hm2 : (k + 1) * 8 ≤ 140737488355328 := by omega
            have hm3 : W.heap.size ≤ ((wr.alloc (.cells #[.int .i64 wd] 3)).drew).heap.size := by simp; omega
            go_region_held_law (fun w' => Below W.heap.size W w' ∧ (∀ b' o, b' < W.heap.size → w'.cell? ⟨b', o, none⟩ = W.cell? ⟨b', o, none⟩))
              (first | assumption | exact sees_of HBr.out | exact sees_of HBr.out.drew | exact sees_alloc HBr.out _ | exact sees_grown HBr.out HO.out (by assumption))
              ((refine step_append_lies _ rfl (.tmp 70) (.tmp 81) 22 rfl W.heap.size 3 i3 _ 1 8 Try.underlying22 HI.out HZ.out HS.out HBY.out rfl (by decide) u8 k _ rfl (HO.out.alloc _).drew ⟨wr.heap.size, 0, none⟩ 1 1 [.int .i64 wd] rfl rfl (World.news_of_block (heap_new _ _)) (by simp [Value.oneCell']) (by decide) hm1 hm2 hm3 _ rfl ?_; intro g cap w5 hown hgrow hat hlt5))
            have HB5 : Hid (Below W.heap.size W w5) := grown_below HBr.out HO.out hgrow
            have HO5 : Hid (w5.ownsRow W.heap.size 3 1 (.slice (some ⟨g, 0, none⟩) (k + 1) cap) (k + 1) (((wsOf N args).take (k + 1)).map intV)) := by
              have := hown
              rw [take_next _ k wd HY.out, List.map_append]
              exact this
            have HG5 : Hid ((args.take (k + 1)).any (badArg i) = false) := by
              show _ = _
              rw [take_next _ k x HX.out, List.any_append, HG.out]
              simp [badArg]; omega
            clear hown hgrow hat hlt5 hm1 hm2 hm3 q1 d3 ca cw q1W d3W caW cwW HO HG HBr HY HX
            go_wp2
            go_roundw
            case measure => simp [intOf]; omega
            case rel => exact ⟨k + 1, by omega, by simp, HO5.out, HG5.out, HB5.out⟩
      · have hge : ¬ ((k : Int) < (args.length : Int)) := by omega
        have HKE : Hid (k = (wsOf N args).length) := by show _ = _; simp [wsOf]; omega
        have HOW : Hid (wr.ownsRow W.heap.size 3 1 u8 k ((wsOf N args).map intV)) := by
          have := HO.out; rw [List.take_of_length_le (by have := HKE.out; omega)] at this; exact this
        obtain ⟨_, aw, cw, hu, hrow⟩ := own_row HOW.out
        have HGA : Hid (args.any (badArg i) = false) := by
          have := HG.out; rw [List.take_of_length_le (by omega)] at this; exact this
        have HRE : Hid (r = nodeEnd N ⟨kind, width, num, args, aa, ac⟩) := by show _ = _; rw [HR.out, HGA.out]; rfl
        have hws : ∀ x, x ∈ wsOf N args → 1 ≤ x ∧ x ≤ 32 := by
          intro x hx
          obtain ⟨a, ha, rfl⟩ := List.mem_map.1 hx
          have hg : badArg i a = false := by
            have := HGA.out; rw [List.any_eq_false] at this; simpa using this a ha
          simp [badArg] at hg
          have hl : a.toNat < N.nodes.length := by omega
          have := hp.out a.toNat _ (by omega) (List.getElem?_eq_getElem hl)
          simp only [widthAt, List.getElem?_eq_getElem hl]; simpa using this
        have hlen : (wsOf N args).length = args.length := by simp [wsOf]
        have FT : Hid (Calls Try.prog 31 #[.agg #[.int .i64 kind, .int .i64 width, .int .u64 num, .slice aa args.length ac], u8] wr fun e w' => e = .returned (.bool (fitsOf kind width num (wsOf N args))) ∧ Below wr.heap.size wr w') := by
          have := fits_any wr kind width num hwd.1 hwd.2 HNA.out.2.1 aa args.length ac aw (wsOf N args) cw hrow hws (by rw [hlen]; exact HNA.out.2.2.2) (by rw [hlen]; exact HK1.out) (by intro e e2; have e3 := HK2.out e; rw [e2] at hlen; simp at hlen; omega)
          rw [hu, HKE.out]; exact this
        have d0 : wr.cell? ⟨w.heap.size + 1, 0, none⟩ = some (.int .i64 kind) := (HBr.out.cell (p := ⟨w.heap.size + 1, 0, none⟩) hD).trans (QD.out 0)
        have d1 : wr.cell? ⟨w.heap.size + 1, 1, none⟩ = some (.int .i64 width) := (HBr.out.cell (p := ⟨w.heap.size + 1, 1, none⟩) hD).trans (QD.out 1)
        have d2 : wr.cell? ⟨w.heap.size + 1, 2, none⟩ = some (.int .u64 num) := (HBr.out.cell (p := ⟨w.heap.size + 1, 2, none⟩) hD).trans (QD.out 2)
        have q0 : wr.cell? ⟨w.heap.size, 0, none⟩ = some (.slice S.a0 N.ins.length S.c0) := (HBr.out.cell (p := ⟨w.heap.size, 0, none⟩) hN).trans (QN.out 0)
        have q2 : wr.cell? ⟨w.heap.size, 2, none⟩ = some (.slice S.a2 N.regs.length S.c2) := (HBr.out.cell (p := ⟨w.heap.size, 2, none⟩) hN).trans (QN.out 2)
        have q3 : wr.cell? ⟨w.heap.size, 3, none⟩ = some (.slice S.a3 N.mems.length S.c3) := (HBr.out.cell (p := ⟨w.heap.size, 3, none⟩) hN).trans (QN.out 3)
        have li := HAW.out.li
        have lr := HAW.out.lr
        have lm := HAW.out.lm
        simp only [big] at li lr lm
        have hn0 : 0 ≤ num := HNA.out.2.1
        have HU := hidden hu
        have HBE : Hid (Below w.heap.size w wr) := HB.out.trans (HBr.out.mono HB.out.size)
        have hbr : ∀ b' q v', b' < B → W.cell? ⟨b', q, none⟩ = some v' → wr.cell? ⟨b', q, none⟩ = some v' := fun b' q v' h1 h2 => (HBr.out.cell (p := ⟨b', q, none⟩) (Nat.lt_of_lt_of_le h1 (Nat.le_trans hB HB.out.size))).trans h2
        have HBR := hidden hbr
        clear hu hrow hws hlen HG HO HOW HR hbr
        by_cases h30 : kind = 30
        · subst h30
          have e1 : IntKind.u64.wrap (N.ins.length : Int) = (N.ins.length : Int) := wrapU _ (by omega) (by omega)
          by_cases hn : num < (N.ins.length : Int)
          · obtain ⟨ib, io, ea, hib, hic⟩ := HAW.out.i.int (i := num.toNat) (by omega)
            have ci := HBR.out ib _ _ hib (hic num.toNat (by omega))
            have HE : Hid (r = decide (at0 N.ins num.toNat = width)) := by show _ = _; rw [HRE.out]; simp [nodeEnd, hn]
            rw [ea] at q0
            generalize at0 N.ins num.toNat = x at ci HE
            clear hic ea HRE FT
            go_wp2
            go_quiet (fail)
            go_wp2
            go_ret
            exact ⟨ret_bool (by rw [HE.out, Bool.eq_iff_iff]; simp), Below.drewN HBE.out _⟩
          · have hd : decide (num < (N.ins.length : Int)) = false := by simp [hn]
            have HE : Hid (r = false) := by show _ = _; rw [HRE.out]; simp [nodeEnd, hn]
            clear HRE FT
            go_wp2
            go_quiet (fail)
            go_wp2
            go_ret
            exact ⟨ret_bool HE.out.symm, Below.drewN HBE.out _⟩
        · by_cases h31 : kind = 31
          · subst h31
            have e1 : IntKind.u64.wrap (N.regs.length : Int) = (N.regs.length : Int) := wrapU _ (by omega) (by omega)
            by_cases hn : num < (N.regs.length : Int)
            · obtain ⟨z, hz⟩ : ∃ z, N.regs[num.toNat]? = some z := ⟨N.regs[num.toNat]'(by omega), List.getElem?_eq_getElem (by omega)⟩
              obtain ⟨ib, io, ea, hib, hic⟩ := HAW.out.r.el hz
              have ci : wr.cell? ⟨ib, io + num.toNat * 3, none⟩ = some (.int .i64 z.width) := HBR.out ib _ _ hib (hic 0 _ rfl)
              have HE : Hid (r = decide (z.width = width)) := by show _ = _; rw [HRE.out]; simp [nodeEnd, hn, hz]
              rw [ea] at q2
              generalize z.width = x at ci HE
              clear hic ea HRE FT hz
              go_wp2
              go_quiet (fail)
              go_wp2
              go_ret
              exact ⟨ret_bool (by rw [HE.out, Bool.eq_iff_iff]; simp), Below.drewN HBE.out _⟩
            · have hd : decide (num < (N.regs.length : Int)) = false := by simp [hn]
              have HE : Hid (r = false) := by show _ = _; rw [HRE.out]; simp [nodeEnd, hn]
              clear HRE FT
              go_wp2
              go_quiet (fail)
              go_wp2
              go_ret
              exact ⟨ret_bool HE.out.symm, Below.drewN HBE.out _⟩
          · by_cases h32 : kind = 32
            · subst h32
              have e1 : IntKind.u64.wrap (N.mems.length : Int) = (N.mems.length : Int) := wrapU _ (by omega) (by omega)
              by_cases hn : num < (N.mems.length : Int)
              · obtain ⟨z, hz⟩ : ∃ z, N.mems[num.toNat]? = some z := ⟨N.mems[num.toNat]'(by omega), List.getElem?_eq_getElem (by omega)⟩
                obtain ⟨ib, io, ea, hib, hic⟩ := HAW.out.m.el hz
                have ci : wr.cell? ⟨ib, io + num.toNat * 2, none⟩ = some (.int .i64 z.width) := HBR.out ib _ _ hib (hic 0 _ rfl)
                have HE : Hid (r = decide (z.width = width)) := by show _ = _; rw [HRE.out]; simp [nodeEnd, hn, hz]
                rw [ea] at q3
                generalize z.width = x at ci HE
                clear hic ea HRE FT hz
                go_wp2
                go_quiet (fail)
                go_wp2
                go_ret
                exact ⟨ret_bool (by rw [HE.out, Bool.eq_iff_iff]; simp), Below.drewN HBE.out _⟩
              · have hd : decide (num < (N.mems.length : Int)) = false := by simp [hn]
                have HE : Hid (r = false) := by show _ = _; rw [HRE.out]; simp [nodeEnd, hn]
                clear HRE FT
                go_wp2
                go_quiet (fail)
                go_wp2
                go_ret
                exact ⟨ret_bool HE.out.symm, Below.drewN HBE.out _⟩
            · by_cases h15 : kind = 1 ∨ kind = 5
              · have HE : Hid (r = fitsOf kind width num (wsOf N args)) := by show _ = _; rw [HRE.out]; simp only [nodeEnd]; rw [if_neg h30, if_neg h31, if_neg h32, if_pos h15]
                clear HRE
                generalize fitsOf kind width num (wsOf N args) = ff at FT HE
                rcases h15 with rfl | rfl
                all_goals
                  go_wp2_with (go_at_call 31; refine FT.out.mono ?_; rintro e w' ⟨rfl, hb2⟩)
                  go_ret
                  exact ⟨ret_bool HE.out.symm, HBE.out.trans (hb2.mono HBE.out.size)⟩
              · have h1 : kind ≠ 1 := fun e => h15 (.inl e)
                have h5 : kind ≠ 5 := fun e => h15 (.inr e)
                by_cases hn : num = 0
                · have HE : Hid (r = fitsOf kind width num (wsOf N args)) := by show _ = _; rw [HRE.out]; simp only [nodeEnd]; rw [if_neg h30, if_neg h31, if_neg h32, if_neg h15]; rw [Bool.eq_iff_iff]; simp [hn]
                  clear HRE h15
                  generalize fitsOf kind width num (wsOf N args) = ff at FT HE
                  subst hn
                  go_wp2_with (go_at_call 31; refine FT.out.mono ?_; rintro e w' ⟨rfl, hb2⟩)
                  go_ret
                  exact ⟨ret_bool HE.out.symm, HBE.out.trans (hb2.mono HBE.out.size)⟩
                · have HE : Hid (r = false) := by show _ = _; rw [HRE.out]; simp only [nodeEnd]; rw [if_neg h30, if_neg h31, if_neg h32, if_neg h15]; simp [hn]
                  clear HRE h15 FT
                  go_wp2
                  go_ret
                  exact ⟨ret_bool HE.out.symm, HBE.out⟩
  · omega

end Go.Proofs.Ytlkhmcajedjojaa
