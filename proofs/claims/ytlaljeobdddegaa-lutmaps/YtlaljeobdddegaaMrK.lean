import Derived.Test.YtlaljeobdddegaaMrJ
namespace Go.Proofs.Ytlaljeobdddegaa
open Go.RowKit Mp

set_option maxRecDepth 100000 in
set_option maxHeartbeats 8000000 in
theorem table_any (C0 C : Nat) (w : World) (D : LyS) (N : NetL) (sg : Nat → Int) (wd : Nat → Bool) (iv tv nv ov : Value) (h : LyAt C w D N sg wd iv tv nv ov) (hC0 : C0 ≤ D.lb) (b o lc : Nat) (l : List Int) (B : Int) (hr : RowAt w.heap.size w (some ⟨b, o, none⟩) 1 (l.map intC)) (hl : l.length ≤ 1000000) (hni : 0 ≤ N.ni ∧ N.ni ≤ 60000) (hin : N.init.length ≤ 60000) (ht : N.tabs.length ≤ 1000000) :
    Calls Try.prog 36 #[.pointer (some ⟨D.lb, 0, none⟩), .slice (some ⟨b, o, none⟩) l.length lc, .int .i64 B] w fun e w' => ∃ (d : L.TbD) (tv' : Value), e = .returned (.int .i64 (2 + N.ni + N.init.length + N.tabs.length)) ∧ d.ins = l ∧ d.bits = B ∧ Hid (LyAt C w' D { N with tabs := N.tabs ++ [d] } sg wd iv tv' nv ov) ∧ Hid (Below C0 w w') ∧ Hid (∀ k, k < w.heap.size → k ≠ D.lb → some k ≠ tv.ownBlock → w'.heap[k]? = w.heap[k]?) := by
  have hlC := h.lt.1
  have hCw := h.le
  have HH := hidden h
  have HZ : Hid (∀ x : World, Bl w x → x.cell? ⟨D.lb, 2, none⟩ = some tv) := fun x hx => (h.to hx).bk.cell (i := 2) rfl
  have HCL : Hid (∀ x : World, Bl w x → Calls Try.prog 52 #[.slice (some ⟨b, o, none⟩) l.length lc] x fun e w' => ∃ v, e = .returned v ∧ Hid (w'.ownsRow x.heap.size 3 1 v l.length (l.map zV)) ∧ Hid (Bl x w')) := fun x hx => clone_any x b o lc l ((hr.to hx).mono hx.size) hl
  have HOT : Hid (∀ x : World, Bl w x → x.ownsRow C 53 2 tv N.tabs.length (N.tabs.flatMap L.TbD.cells)) := fun x hx => (h.to hx).ot
  obtain ⟨n, En⟩ := exh l.length
  rw [← En.out] at HCL
  rw [← En.out]
  obtain ⟨nt, Ent⟩ := exh N.tabs.length
  obtain ⟨lb, Elb⟩ := exh D.lb
  rw [← Elb.out] at HZ hlC hC0
  rw [← Elb.out]
  have HQ : Hid (Bl w w.drew) := Below.drew (Below.refl _ _)
  have HFI : Hid (∀ (xc : World) (pa : Option Addr) (pc g c5 : Nat) (w5 : World), Bl w xc → xc.ownsRow w.heap.size 3 1 (.slice pa n pc) n (l.map zV) → w5.ownsRow C 53 2 (.slice (some ⟨g, 0, none⟩) (N.tabs.length + 1) c5) (N.tabs.length + 1) (N.tabs.flatMap L.TbD.cells ++ (⟨pa, pc, l, B⟩ : L.TbD).cells) → xc.grownBy w5 tv.ownBlock → (tv.ownBlock = some g ∨ g = xc.heap.size) → (w5.cell? ⟨lb, 2, none⟩ = some tv ∧ w5.frozen? ⟨lb, 2, none⟩ = false) ∧ Calls Try.prog 53 #[.pointer (some ⟨lb, 0, none⟩)] (w5.setCell ⟨lb, 2, none⟩ (.slice (some ⟨g, 0, none⟩) (N.tabs.length + 1) c5)) fun e w' => e = .returned (.int .i64 (2 + N.ni + N.init.length + (N.tabs.length + 1 : Nat))) ∧ ∃ tv' : Value, Hid (LyAt C w' D { N with tabs := N.tabs ++ [⟨pa, pc, l, B⟩] } sg wd iv tv' nv ov) ∧ Hid (Below C0 w w') ∧ Hid (∀ k, k < w.heap.size → k ≠ lb → some k ≠ tv.ownBlock → w'.heap[k]? = w.heap[k]?)) := fun xc pa pc g c5 w5 hx hoa hown hgrow hplace => by
    have hb5 := blk_kept (HH.out.bk.below hx) hgrow (fun e => by have := own_newB HH.out.ot D.lb e.symm; have := HH.out.lt.1; omega)
    refine ⟨by rw [Elb.out]; exact ⟨hb5.cell (i := 2) rfl, hb5.frozen 2⟩, ?_⟩
    have hnew := HH.out.tab hx (d := ⟨pa, pc, l, B⟩) (by unfold tcl; rw [← En.out]; exact hoa) hgrow hown hplace
    rw [← Elb.out] at hnew
    have b1 : Below C0 w xc := hx.mono (by omega)
    have b2 : Below C0 xc w5 := grow_low hgrow (Nat.le_trans (by omega) b1.size) (fun k hk => by have := own_newB HH.out.ot k hk; omega)
    have b3 : Below C0 w (w5.setCell ⟨lb, 2, none⟩ (.slice (some ⟨g, 0, none⟩) (N.tabs.length + 1) c5)) := b1.trans (b2.trans ((But.set lb 2 w5 _).below hC0 (Nat.le_trans (by omega) (b1.trans b2).size)))
    obtain ⟨a1, c1, e1⟩ := own_sl hnew.oi
    obtain ⟨a3, c3, e3⟩ := own_sl hnew.on
    obtain ⟨a4, c4, e4⟩ := own_sl hnew.oo
    have hbx : L.BoxAt (w5.setCell ⟨lb, 2, none⟩ (.slice (some ⟨g, 0, none⟩) (N.tabs.length + 1) c5)) lb ⟨a1, c1, some ⟨g, 0, none⟩, c5, a3, c3, a4, c4⟩ ⟨N.ni, N.init, N.tabs ++ [⟨pa, pc, l, B⟩], N.next, N.outs⟩ := by
      have hk := hnew.bk
      rw [← Elb.out, e1, e3, e4] at hk
      exact ⟨hk.lt, hk.cell (i := 0) rfl, hk.cell (i := 1) rfl, by have := hk.cell (i := 2) rfl; simpa using this, hk.cell (i := 3) rfl, hk.cell (i := 4) rfl⟩
    refine (L.signals_any _ lb _ _ hbx hni.1 hni.2 (by show N.init.length < L.huge; unfold L.huge; omega) (by show (N.tabs ++ _).length < L.big; rw [List.length_append, List.length_singleton]; unfold L.big; omega)).mono ?_
    rintro e w' ⟨rfl, k, rfl⟩
    refine ⟨?_, _, hnew.to (Below.drewN (Below.refl _ _) k), b3.trans (Below.drewN (Below.refl _ _) k), fun j h1 h2 h3 => ((But.set lb 2 w5 _).block j (by have := hx.size; have := hgrow.size; omega) h2).trans ((hgrow.block j (by have := hx.size; omega) h3).trans (hx.block j h1))⟩
    congr 2
    show (2 + N.ni + (N.init.length : Int)) + ((N.tabs ++ [_]).length : Int) = _
    rw [List.length_append, List.length_singleton]
  rw [← Ent.out] at HFI HOT ht
  rw [← Ent.out]
  clear h hr hl
  go_enter Try.func36, Try.ntmps36
  go_wp2_with fail
  refine wp_region_noPanic ?_
  refine wp_region_held_drew (S := fun wz => True) (by kernel_rfl) (by exact True.intro) (fun hHeld => ?_)
  refine tk 0 ?_
  refine tk 1 ?_
  refine tk 2 ?_
  refine tk 3 ?_
  refine tk 4 ?_
  refine tk 6 ?_
  refine tk 8 ?_
  have zz : w.drew.cell? ⟨lb, 2, none⟩ = some tv := HZ.out _ HQ.out
  refine wpAnyH_ready (rs := [5, 7]) (by kernel_rfl) (by simp) ?_
  refine AllReadyH.cons (o := _) rfl (fun K hK => ?cA) (AllReadyH.cons (o := _) rfl (fun K hK => ?cB) AllReadyH.nil)
  case' cA =>
    (try simp only [gA, gB, gC]); go_simp
    refine wo hK True.intro fun _ => ?_
    clear hK K
    clear zz
    refine rd 7 fun K hK => ?_
    (try simp only [gA, gB, gC]); go_simp
    go_at_call 52
    refine (HCL.out _ HQ.out).mono ?_
    rintro e xa ⟨va, rfl, HOa, HBa⟩
    obtain ⟨pa, pc, hva, -, -⟩ := own_ints HOa.out
    subst hva
    replace HQ : Hid (Bl w xa) := Bl.tr HQ.out HBa.out
    clear HBa
    go_wp2_with fail
    refine wo hK True.intro fun _ => ?_
    clear hK K
    refine tk 9 ?_
    refine rd 10 fun K hK => ?_
    (try simp only [gA, gB, gC]); go_simp
    obtain ⟨xb, Exb⟩ := exh xa.heap.size
    have hal : Bl xa (xa.alloc (.cells #[.slice pa n pc, .int .i64 B] 53)) := (Below.refl _ _).alloc (Nat.le_refl _) _
    have HKc : Hid (Blk (xa.alloc (.cells #[.slice pa n pc, .int .i64 B] 53)) xb 53 #[.slice pa n pc, .int .i64 B]) := by rw [Exb.out]; exact Blk.new xa _ _
    have HOc := hidden (own_below HOa.out hal)
    replace HQ : Hid (Bl w (xa.alloc (.cells #[.slice pa n pc, .int .i64 B] 53))) := Bl.tr HQ.out hal
    rw [← Exb.out]
    clear hal
    generalize xa.alloc (.cells #[.slice pa n pc, .int .i64 B] 53) = xc at *
    refine wo hK True.intro fun _ => ?_
    clear hK K
  case' cB =>
    clear zz
    (try simp only [gA, gB, gC]); go_simp
    go_at_call 52
    refine (HCL.out _ HQ.out).mono ?_
    rintro e xa ⟨va, rfl, HOa, HBa⟩
    obtain ⟨pa, pc, hva, -, -⟩ := own_ints HOa.out
    subst hva
    replace HQ : Hid (Bl w xa) := Bl.tr HQ.out HBa.out
    clear HBa
    go_wp2_with fail
    refine wo hK True.intro fun _ => ?_
    clear hK K
    refine tk 9 ?_
    have zz : xa.cell? ⟨lb, 2, none⟩ = some tv := HZ.out _ HQ.out
    refine wpAnyH_ready (rs := [5, 10]) (by kernel_rfl) (by simp) ?_
    refine AllReadyH.cons (o := _) rfl (fun K hK => ?cC) (AllReadyH.cons (o := _) rfl (fun K hK => ?cD) AllReadyH.nil)
  case' cC =>
    (try simp only [gA, gB, gC]); go_simp
    refine wo hK True.intro fun _ => ?_
    clear hK K
    clear zz
    refine rd 10 fun K hK => ?_
    (try simp only [gA, gB, gC]); go_simp
    obtain ⟨xb, Exb⟩ := exh xa.heap.size
    have hal : Bl xa (xa.alloc (.cells #[.slice pa n pc, .int .i64 B] 53)) := (Below.refl _ _).alloc (Nat.le_refl _) _
    have HKc : Hid (Blk (xa.alloc (.cells #[.slice pa n pc, .int .i64 B] 53)) xb 53 #[.slice pa n pc, .int .i64 B]) := by rw [Exb.out]; exact Blk.new xa _ _
    have HOc := hidden (own_below HOa.out hal)
    replace HQ : Hid (Bl w (xa.alloc (.cells #[.slice pa n pc, .int .i64 B] 53))) := Bl.tr HQ.out hal
    rw [← Exb.out]
    clear hal
    generalize xa.alloc (.cells #[.slice pa n pc, .int .i64 B] 53) = xc at *
    refine wo hK True.intro fun _ => ?_
    clear hK K
  case' cD =>
    clear zz
    (try simp only [gA, gB, gC]); go_simp
    obtain ⟨xb, Exb⟩ := exh xa.heap.size
    have hal : Bl xa (xa.alloc (.cells #[.slice pa n pc, .int .i64 B] 53)) := (Below.refl _ _).alloc (Nat.le_refl _) _
    have HKc : Hid (Blk (xa.alloc (.cells #[.slice pa n pc, .int .i64 B] 53)) xb 53 #[.slice pa n pc, .int .i64 B]) := by rw [Exb.out]; exact Blk.new xa _ _
    have HOc := hidden (own_below HOa.out hal)
    replace HQ : Hid (Bl w (xa.alloc (.cells #[.slice pa n pc, .int .i64 B] 53))) := Bl.tr HQ.out hal
    rw [← Exb.out]
    clear hal
    generalize xa.alloc (.cells #[.slice pa n pc, .int .i64 B] 53) = xc at *
    refine wo hK True.intro fun _ => ?_
    clear hK K
    have zz : xc.cell? ⟨lb, 2, none⟩ = some tv := HZ.out _ HQ.out
    refine rd 5 fun K hK => ?_
    (try simp only [gA, gB, gC]); go_simp
    refine wo hK True.intro fun _ => ?_
    clear hK K
    clear zz
  all_goals
    refine rd 11 fun K hK => ?_
    refine step_tab _ rfl (.tmp 12) (.tmp 17) rfl C tv nt _ rfl (HOT.out _ HQ.out) xb ⟨pa, pc, l, B⟩ rfl (by unfold L.TbD.cells; rw [← En.out]; exact HKc.out) (by omega) (Nat.le_trans hCw HQ.out.size) ?_
    intro g5 c5 w5 hown hgrow hplace
    obtain ⟨⟨y7, f7⟩, hfin⟩ := HFI.out _ pa pc g5 c5 w5 HQ.out HOc.out hown hgrow hplace
    have HSG := hidden hfin
    clear hown hgrow hplace hfin HFI
    refine wo hK True.intro fun _ => ?_
    clear hK K
    refine tk 12 ?_
    refine tk 13 ?_
    refine tk 14 ?_
    refine rd 15 fun K hK => ?_
    (try simp only [gA, gB, gC]); go_simp
    refine wo hK True.intro fun _ => ?_
    clear hK K
    refine wpAnyH_done (by kernel_rfl) ?_ _
    refine NoPanic.normal ?_
    go_wp2_with fail
    go_at_call 53
    refine HSG.out.mono ?_
    rintro e w8 ⟨rfl, tv', HL8, HB8, HK8⟩
    have e9 : IntKind.i64.wrap (2 + N.ni + (N.init.length : Int) + ((nt + 1 : Nat) : Int) - 1) = 2 + N.ni + (N.init.length : Int) + (nt : Int) := by rw [wrapI _ (by omega) (by omega)]; omega
    clear HSG
    go_wp2
    go_ret
    exact ⟨⟨pa, pc, l, B⟩, tv', ret_int (by omega), rfl, rfl, HL8.out, HB8.out, HK8.out⟩
end Go.Proofs.Ytlaljeobdddegaa
