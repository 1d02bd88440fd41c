import Derived.Test.YtlaljeobdddegaaMrS
namespace Go.Proofs.Ytlaljeobdddegaa
open Go.RowKit Mp

theorem has_next {l : List Nat} {k y : Nat} (x : Nat) (h : l[k]? = some y) : (l.take (k + 1)).contains x = ((l.take k).contains x || decide (y = x)) := by
  rw [take_next _ _ _ h]
  rw [Bool.eq_iff_iff]
  simp
  constructor
  · rintro (h | h)
    · exact Or.inl h
    · exact Or.inr h.symm
  · rintro (h | h)
    · exact Or.inl h
    · exact Or.inr h.symm
set_option maxRecDepth 100000 in
set_option maxHeartbeats 8000000 in
theorem withinD_any (w : World) (a b : Option Addr) (ca cb : Nat) (la lb : List Nat) (ha : NumR w a la) (hb : NumR w b lb) (l1 : la.length ≤ 1000) (l2 : lb.length ≤ 1000) :
    Calls Try.prog 45 #[.slice a la.length ca, .slice b lb.length cb] w fun e w' => e = .returned (.bool (wit la lb)) ∧ Bl w w' := by
  have HA := hidden ha
  have HB := hidden hb
  obtain ⟨n, En⟩ := exh la.length
  obtain ⟨m, Em⟩ := exh lb.length
  rw [← En.out] at l1
  rw [← Em.out] at l2
  rw [← En.out, ← Em.out]
  clear ha hb
  go_enter Try.func45, Try.ntmps45
  go_wp2_with fail
  go_loopw [5, 6, 7] (fun i' _ _ w' => ∃ i : Nat, i ≤ n ∧ i' = .int .i64 (i : Int) ∧ Hid (wit (la.take i) lb = true) ∧ Hid (Bl w w')) (fun i' _ _ _ => n - (intOf i').toNat)
  case atStart => exact ⟨0, Nat.zero_le _, rfl, (by show wit (la.take 0) lb = true; rfl), Below.refl _ _⟩
  case round =>
    obtain ⟨i, hi, rfl, HW, HBW⟩ := hrel
    by_cases hlt : i < n
    · have hltI : (i : Int) < (n : Int) := by omega
      obtain ⟨x, hx⟩ := getElem_lt (show i < la.length by rw [← En.out]; exact hlt)
      obtain ⟨ba, oa, ea, cx0⟩ := HA.out i x hx
      have HCX : Hid (∀ v, Bl w v → v.cell? ⟨ba, oa + i, none⟩ = some (.int .i64 (x : Int))) := fun v hv => (hv.cell (p := ⟨ba, oa + i, none⟩) (cell_lt cx0)).trans cx0
      have HX := hidden hx
      subst ea
      clear cx0 hx
      go_wp2_with fail
      go_loopw [6, 7] (fun b' k' w' => ∃ (k : Nat) (r : Bool), k ≤ m ∧ k' = .int .i64 (k : Int) ∧ b' = .bool r ∧ Hid (r = (lb.take k).contains x) ∧ Hid (Bl w w')) (fun _ k' _ => m - (intOf k').toNat)
      case atStart => exact ⟨0, false, Nat.zero_le _, rfl, rfl, rfl, HBW.out⟩
      case round =>
        obtain ⟨k, r, hk, rfl, rfl, HR, HBK⟩ := hrel
        by_cases hlk : k < m
        · have hlkI : (k : Int) < (m : Int) := by omega
          obtain ⟨y, hy⟩ := getElem_lt (show k < lb.length by rw [← Em.out]; exact hlk)
          obtain ⟨bb, ob, eb, cy0⟩ := HB.out k y hy
          have e2 : IntKind.i64.wrap ((k : Int) + 1) = (k : Int) + 1 := wrapI _ (by omega) (by omega)
          have HNX := hidden (has_next x hy)
          rw [← HR.out] at HNX
          cases r
          · have cx := HCX.out wr HBK.out
            have cy := (HBK.out.cell (p := ⟨bb, ob + k, none⟩) (cell_lt cy0)).trans cy0
            subst eb
            clear cy0 hy HR
            go_wp2_with fail
            refine wp_region_noPanic ?_
            refine wp_region_held_drew (S := fun wz => wz.cell? ⟨bb, ob + k, none⟩ = some (.int .i64 (y : Int)) ∧ wz.cell? ⟨ba, oa + i, none⟩ = some (.int .i64 (x : Int))) (by kernel_rfl) (by exact ⟨cy, cx⟩) (fun hHeld => ?_)
            refine tk 0 ?_
            refine tk 1 ?_
            refine tk 2 ?_
            refine tk 3 ?_
            refine tk 4 ?_
            refine tk 5 ?_
            refine tk 6 ?_
            refine tk 7 ?_
            refine tk 8 ?_
            refine tk 9 ?_
            refine tk 10 ?_
            refine tk 11 ?_
            refine tk 12 ?_
            refine wpAnyH_done (by kernel_rfl) ?_ _
            refine NoPanic.normal ?_
            have HBN : Hid (Bl w wr.drew) := Below.drew HBK.out
            go_wp2
            go_roundw
            case measure => simp [intOf]; omega
            case rel => exact ⟨k + 1, _, by omega, by simp, rfl, by rw [HNX.out, Bool.false_or]; exact decide_eq_decide.2 (by omega), HBN.out⟩
          · clear cy0 hy HR eb
            go_wp2_with fail
            refine wp_region_noPanic ?_
            refine wp_region_held_drew (S := fun wz => True) (by kernel_rfl) (by exact True.intro) (fun hHeld => ?_)
            refine tk 0 ?_
            refine tk 1 ?_
            refine tu 2 ?_
            refine tu 3 ?_
            refine tu 4 ?_
            refine tu 5 ?_
            refine tu 6 ?_
            refine tu 7 ?_
            refine tu 8 ?_
            refine tu 9 ?_
            refine tu 10 ?_
            refine tk 11 ?_
            refine tk 12 ?_
            refine wpAnyH_done (by kernel_rfl) ?_ _
            refine NoPanic.normal ?_
            have HBN : Hid (Bl w wr.drew) := Below.drew HBK.out
            go_wp2
            go_roundw
            case measure => simp [intOf]; omega
            case rel => exact ⟨k + 1, true, by omega, by simp, rfl, by rw [HNX.out, Bool.true_or]; exact (rfl : true = true), HBN.out⟩
        · have hge : ¬ (k : Int) < (m : Int) := by omega
          have HRR : Hid (r = lb.contains x) := by
            show r = _
            rw [HR.out, List.take_of_length_le (by have := Em.out; omega)]
          have e2 : IntKind.i64.wrap ((i : Int) + 1) = (i : Int) + 1 := wrapI _ (by omega) (by omega)
          clear HR
          cases r
          · have HF : Hid (wit la lb = false) := by
              show la.all _ = false
              rw [List.all_eq_false]
              exact ⟨x, List.mem_of_getElem? HX.out, by rw [← HRR.out]; simp⟩
            go_wp2
            go_ret
            exact ⟨ret_bool HF.out.symm, HBK.out⟩
          · have HT : Hid (wit (la.take (i + 1)) lb = true) := by
              show (la.take (i + 1)).all _ = true
              rw [all_next _ _ _ _ HX.out, ← HRR.out, Bool.and_true]
              exact HW.out
            go_wp2
            go_roundw
            case measure => simp [intOf]; omega
            case rel => exact ⟨i + 1, by omega, by simp, HT.out, HBK.out⟩
    · have hge : ¬ (i : Int) < (n : Int) := by omega
      have HT : Hid (wit la lb = true) := by
        have := HW.out
        rw [List.take_of_length_le (by have := En.out; omega)] at this
        exact this
      go_wp2
      go_ret
      exact ⟨ret_bool HT.out.symm, HBW.out⟩
/-- the depth of a literal -/
def dofL (F : Nat) (label : Nat → Nat) (l : Nat) : Nat := if l / 2 = 0 ∨ F ≤ l / 2 then label (l / 2) else l % 2
set_option maxRecDepth 100000 in
set_option maxHeartbeats 8000000 in
theorem depthOf_any (w : World) (S : GrS) (G : GrD) (ni n : Nat) (hF : FineG G ni n) (a : Option Addr) (c m : Nat) (label : Nat → Nat) (hl : ∀ v, v < m → ∃ b o, a = some ⟨b, o, none⟩ ∧ w.cell? ⟨b, o + v, none⟩ = some (.int .i64 (label v : Nat))) (l : Nat) (hlm : l / 2 < m) (hbig : l ≤ 1000000) :
    Calls Try.prog 28 #[.agg (S.cells G), .slice a m c, .int .i64 (l : Nat)] w fun e w' => e = .returned (.int .i64 (dofL (firstN G) label l : Nat)) ∧ Bl w w' := by
  obtain ⟨b, o, ea, cx0⟩ := hl (l / 2) hlm
  subst ea
  have hq : (l : Int).tdiv 2 = ((l / 2 : Nat) : Int) := by rw [Int.tdiv_eq_ediv_of_nonneg (by omega)]; omega
  have hr : (l : Int).tmod 2 = ((l % 2 : Nat) : Int) := by rw [Int.tmod_eq_emod_of_nonneg (by omega)]; omega
  have hins := hF.ins
  have hfi := hF.first
  have hN6 := hF.le
  have hall := hF.all
  obtain ⟨p, Ep⟩ := exh (l / 2)
  obtain ⟨q, Eq⟩ := exh (l % 2)
  rw [← Ep.out] at hq cx0 hlm
  rw [← Eq.out] at hr
  obtain ⟨nl, Enl⟩ := exh G.lats.length
  have hpI : (p : Int) < (m : Int) := by omega
  have e2 : IntKind.i64.wrap ((ni : Int) + (nl : Int)) = ((ni + nl : Nat) : Int) := by rw [wrapI _ (by have := Enl.out; omega) (by have := Enl.out; omega)]; omega
  have HD : Hid (dofL (firstN G) label l = if p = 0 ∨ firstN G ≤ p then label p else q) := by
    show _ = _
    unfold dofL; rw [← Ep.out, ← Eq.out]
  have HX : Hid (∀ o', (w.alloc o').cell? ⟨b, o + p, none⟩ = some (.int .i64 (label p : Nat))) := fun o' => by
    rw [World.cell?_alloc_lt _ _ _ (cell_lt cx0)]; exact cx0
  have hf2 : firstN G = 1 + (ni + nl) := by have := Enl.out; omega
  unfold GrS.cells
  rw [hins, ← Enl.out]
  obtain ⟨s, Es⟩ := exh (ni + nl)
  rw [← Es.out] at hf2 e2
  obtain ⟨lp, Elp⟩ := exh (label p)
  rw [← Elp.out] at HX
  obtain ⟨gb, Egb⟩ := exh w.heap.size
  have HW : Hid (∀ w0 : World, w.alloc (.cells #[.int .i64 (ni : Int), .slice S.a1 nl S.c1, .slice S.a2 G.ands.length S.c2, .slice S.a3 G.outs.length S.c3] 26) = w0 → w0.cell? ⟨b, o + p, none⟩ = some (.int .i64 (lp : Int)) ∧ w0.cell? ⟨gb, 0, none⟩ = some (.int .i64 (ni : Int)) ∧ w0.cell? ⟨gb, 1, none⟩ = some (.slice S.a1 nl S.c1) ∧ Bl w w0) := fun w0 e => by
    subst e
    rw [Egb.out]
    exact ⟨HX.out _, (Blk.new w _ _).cell (i := 0) rfl, (Blk.new w _ _).cell (i := 1) rfl, (Below.refl _ _).alloc (Nat.le_refl _) _⟩
  have hp6 : p ≤ 1000000 := by have := Ep.out; omega
  have hq6 : q ≤ 1000000 := by have := Eq.out; omega
  clear hl hins hfi hall hF cx0 HX
  by_cases h0 : p = 0
  · have HDD : Hid (dofL (firstN G) label l = lp) := by
      show _ = _
      rw [HD.out, if_pos (Or.inl h0), Elp.out]
    subst h0
    clear HD hf2
    go_enter Try.func28, Try.ntmps28
    go_upto_region 1 with fail
    generalize hw0 : World.alloc w _ = w0
    obtain ⟨x0, x1, x2, hb⟩ := HW.out w0 hw0
    rw [Nat.add_zero] at x0
    rw [← Egb.out]
    clear HW hw0
    go_wp2
    go_ret
    exact ⟨ret_int (by rw [HDD.out]), hb⟩
  · have h0I : ¬ (p : Int) = 0 := by omega
    by_cases h1 : s < p
    · have h1I : (s : Int) < (p : Int) := by omega
      have HDD : Hid (dofL (firstN G) label l = lp) := by
        show _ = _
        rw [HD.out, if_pos (Or.inr (by omega)), Elp.out]
      clear HD hf2 h0 h1
      go_enter Try.func28, Try.ntmps28
      go_upto_region 1 with fail
      generalize hw0 : World.alloc w _ = w0
      obtain ⟨x0, x1, x2, hb⟩ := HW.out w0 hw0
      rw [← Egb.out]
      clear HW hw0
      go_wp2
      go_ret
      exact ⟨ret_int (by rw [HDD.out]), hb⟩
    · have h1I : ¬ (s : Int) < (p : Int) := by omega
      have HDD : Hid (dofL (firstN G) label l = q) := by
        show _ = _
        rw [HD.out, if_neg (by omega)]
      clear HD hf2 h0 h1
      go_enter Try.func28, Try.ntmps28
      go_upto_region 1 with fail
      generalize hw0 : World.alloc w _ = w0
      obtain ⟨x0, x1, x2, hb⟩ := HW.out w0 hw0
      rw [← Egb.out]
      clear HW hw0
      go_wp2
      go_ret
      exact ⟨ret_int (by rw [HDD.out]), hb⟩
end Go.Proofs.Ytlaljeobdddegaa
