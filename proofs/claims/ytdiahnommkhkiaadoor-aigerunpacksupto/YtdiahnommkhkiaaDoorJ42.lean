import Derived.Test.YtdiahnommkhkiaaDoorJ41
import Derived.Test.YtdiahnommkhkiaaDoorJ28
namespace Go.Proofs.YtdiahnommkhkiaaDoor
open Go.RowKit

def HeadBB (a : List UInt8) : Prop := a.take 3 = [97, 105, 103] ∧ a[3]? = some 32
theorem headB_form {a : List UInt8} (h : HeadBB a) (x : Int × Int × Int × Int × Int) : HeadLB a x ↔ (pcs 32 (a.drop 4)).all numOk = true ∧ (pcs 32 (a.drop 4)).map numV = [x.1, x.2.1, x.2.2.1, x.2.2.2.1, x.2.2.2.2] ∧ rightH x := by
  have h3 : 3 < a.length := (List.getElem?_eq_some_iff.1 h.2).1
  have ha : a = [97, 105, 103] ++ 32 :: a.drop 4 := by
    have hg : a[3] = 32 := by have := h.2; rw [List.getElem?_eq_getElem h3] at this; exact Option.some.inj this
    have h4 := List.drop_eq_getElem_cons h3
    rw [hg] at h4
    rw [← h4, ← h.1, List.take_append_drop]
  have hc : Lib.cut a [32] = ([97, 105, 103], a.drop 4, true) := by
    rw (occs := .pos [1]) [ha]
    exact cut_cut 32 _ _ (by decide)
  unfold HeadLB
  rw [hc]
  simp
theorem headB_form_not {a : List UInt8} (h : ¬ HeadBB a) (x : Int × Int × Int × Int × Int) : ¬ HeadLB a x := by
  rintro ⟨h1, h2, _⟩
  rcases first_or 32 a with hf | ⟨u, v, hu, rfl⟩
  · rw [cut_free 32 a hf] at h2
    simp only [show pcs 32 [] = [[]] from rfl] at h2
    simp [numOk] at h2
  · rw [cut_cut 32 u v hu] at h1
    simp only at h1
    subst h1
    exact h ⟨by simp, by simp⟩
set_option maxRecDepth 100000 in
set_option maxHeartbeats 8000000 in
theorem header_by (a : List UInt8) (ha : a.length ≤ 1048576) (w : World) :
    Calls Tryd.prog 24 #[.string (bs a), .string ⟨#[97, 105, 103]⟩] w fun e w' => Below w.heap.size w w' ∧ ((∃ ni nl no na : Nat, HeadLB a (hInts ni nl no na) ∧ e = .returned (.tuple #[.agg #[.int .i64 (ni : Int), .int .i64 (nl : Int), .int .i64 (no : Int), .int .i64 (na : Int)], .bool true])) ∨ ((¬ ∃ h, HeadLB a h) ∧ e = .returned (.tuple #[zeroH, .bool false]))) := by
  have hz := bs_size a
  have HG : Hid (∀ k c, a[k]? = some c → ∀ hk, (bs a)[k]'hk = c) := fun k c h hk => bs_get a k c h hk
  have x1 : (bs a).extract 0 3 = bs (a.take 3) := by have := bs_sub a 0 3; simpa using this
  have x2 : (bs a).extract 4 (bs a).size = bs (a.drop 4) := bs_drop a 4
  have hce : ((bs (a.take 3)).toList == [97, 105, 103]) = decide (a.take 3 = [97, 105, 103]) := by rw [bs_toList]; by_cases hx : a.take 3 = [97, 105, 103] <;> simp [hx]
  have PA := hidden (fun w' => parted_any (a.drop 4) (by simp; omega) w')
  have HPL : Hid ((pcs 32 (a.drop 4)).length ≤ 1048577) := by have := pcs_len 32 (a.drop 4); simp at this; show _ ≤ _; omega
  generalize bs a = s at *
  generalize bs (a.take 3) = s3 at *
  generalize bs (a.drop 4) = s4 at *
  have hs48 : s.size ≤ 1048576 := by omega
  have HZ := hidden hz
  clear hz ha
  go_enter Tryd.func24, Tryd.ntmps24
  go_upto_region 1 with fail
  generalize hW : World.alloc w _ = W
  obtain ⟨hb, hhb⟩ : ∃ x, x = w.heap.size := ⟨_, rfl⟩
  have HBL : Hid (Below w.heap.size w W) := by rw [← hW]; exact (Below.refl _ _).alloc (Nat.le_refl _) _
  have HQ : Hid (W.heap[hb]? = some (.cells #[.int .i64 0, .int .i64 0, .int .i64 0, .int .i64 0] 60 (0, 0))) := by rw [← hW, hhb]; exact heap_new _ _
  have hbl : hb < W.heap.size := by rw [← hW, hhb]; simp
  rw [← hhb]
  have hbw : w.heap.size ≤ hb := by omega
  clear hW hhb
  have q0 : W.cell? ⟨hb, 0, none⟩ = some (.int .i64 0) := heap_cell HQ.out
  have q1 : W.cell? ⟨hb, 1, none⟩ = some (.int .i64 0) := heap_cell HQ.out
  have q2 : W.cell? ⟨hb, 2, none⟩ = some (.int .i64 0) := heap_cell HQ.out
  have q3 : W.cell? ⟨hb, 3, none⟩ = some (.int .i64 0) := heap_cell HQ.out
  have f0 : ∀ j, W.frozen? ⟨hb, j, none⟩ = false := fun j => heap_fz HQ.out j
  by_cases h4 : a.length < 4
  · have HNO : Hid (¬ ∃ h, HeadLB a h) := fun ⟨x, hx⟩ => headB_form_not (fun hb => by have := (List.getElem?_eq_some_iff.1 hb.2).1; omega) x hx
    have hs4 : (s.size : Int) < 4 := by have := HZ.out; omega
    clear h4
    have HG5 : Hid (W.grownBy ((((W.setCell ⟨hb, 0, none⟩ (.int .i64 0)).setCell ⟨hb, 1, none⟩ (.int .i64 0)).setCell ⟨hb, 2, none⟩ (.int .i64 0)).setCell ⟨hb, 3, none⟩ (.int .i64 0)) (some hb)) := grown_trans (grown_trans (grown_trans (gset _ _ _ _) (gset _ _ _ _)) (gset _ _ _ _)) (gset _ _ _ _)
    obtain ⟨z0, z1, z2, z3⟩ := set4 q0 q1 q2 q3 (.int .i64 0) (.int .i64 0) (.int .i64 0) (.int .i64 0)
    go_wp2
    generalize World.setCell _ (⟨hb, 3, none⟩ : Addr) _ = w5 at HG5 z0 z1 z2 z3 ⊢
    clear q0 q1 q2 q3 f0
    refine bodyPost_ret (v := .tuple #[zeroH, .bool false]) (by simp [results, Tryd.results24, go_sem, zeroH, *]) rfl ?_
    exact ⟨HBL.out.trans (below_grown HG5.out HBL.out.size (fun k hk => by have := Option.some.inj hk; omega)), Or.inr ⟨HNO.out, rfl⟩⟩
  have hs4 : ¬ (s.size : Int) < 4 := by have := HZ.out; omega
  have hs3 : (3 : Int) ≤ (s.size : Int) := by omega
  have hs4' : (4 : Int) ≤ (s.size : Int) := by omega
  have hs3' : (3 : Int) < (s.size : Int) := by omega
  obtain ⟨d, hd⟩ := getElem_lt (show 3 < a.length by omega)
  have g0 := HG.out 3 d hd (by have := HZ.out; omega)
  have HD := hidden hd
  clear h4 hd
  by_cases ht : a.take 3 = [97, 105, 103]
  rotate_left
  · have HNO : Hid (¬ ∃ h, HeadLB a h) := fun ⟨x, hx⟩ => headB_form_not (fun hb => ht hb.1) x hx
    have hdt : decide (a.take 3 = [97, 105, 103]) = false := by simp [ht]
    rw [hdt] at hce
    have HG5 : Hid (W.grownBy ((((W.setCell ⟨hb, 0, none⟩ (.int .i64 0)).setCell ⟨hb, 1, none⟩ (.int .i64 0)).setCell ⟨hb, 2, none⟩ (.int .i64 0)).setCell ⟨hb, 3, none⟩ (.int .i64 0)) (some hb)) := grown_trans (grown_trans (grown_trans (gset _ _ _ _) (gset _ _ _ _)) (gset _ _ _ _)) (gset _ _ _ _)
    obtain ⟨z0, z1, z2, z3⟩ := set4 q0 q1 q2 q3 (.int .i64 0) (.int .i64 0) (.int .i64 0) (.int .i64 0)
    go_wp2
    generalize World.setCell _ (⟨hb, 3, none⟩ : Addr) _ = w5 at HG5 z0 z1 z2 z3 ⊢
    clear q0 q1 q2 q3 f0
    refine bodyPost_ret (v := .tuple #[zeroH, .bool false]) (by simp [results, Tryd.results24, go_sem, zeroH, *]) rfl ?_
    exact ⟨HBL.out.trans (below_grown HG5.out HBL.out.size (fun k hk => by have := Option.some.inj hk; omega)), Or.inr ⟨HNO.out, rfl⟩⟩
  have hdt : decide (a.take 3 = [97, 105, 103]) = true := by simp [ht]
  rw [hdt] at hce
  by_cases h32 : d = 32
  rotate_left
  · have HNO : Hid (¬ ∃ h, HeadLB a h) := fun ⟨x, hx⟩ => headB_form_not (fun hb => by have := hb.2; rw [HD.out] at this; exact h32 (Option.some.inj this)) x hx
    have b1 : ((d.toNat : Int) != 32) = true := by simp; intro e; exact h32 (UInt8.toNat_inj.1 (by show d.toNat = 32; omega))
    have HG5 : Hid (W.grownBy ((((W.setCell ⟨hb, 0, none⟩ (.int .i64 0)).setCell ⟨hb, 1, none⟩ (.int .i64 0)).setCell ⟨hb, 2, none⟩ (.int .i64 0)).setCell ⟨hb, 3, none⟩ (.int .i64 0)) (some hb)) := grown_trans (grown_trans (grown_trans (gset _ _ _ _) (gset _ _ _ _)) (gset _ _ _ _)) (gset _ _ _ _)
    obtain ⟨z0, z1, z2, z3⟩ := set4 q0 q1 q2 q3 (.int .i64 0) (.int .i64 0) (.int .i64 0) (.int .i64 0)
    go_wp2
    generalize World.setCell _ (⟨hb, 3, none⟩ : Addr) _ = w5 at HG5 z0 z1 z2 z3 ⊢
    clear q0 q1 q2 q3 f0
    refine bodyPost_ret (v := .tuple #[zeroH, .bool false]) (by simp [results, Tryd.results24, go_sem, zeroH, *]) rfl ?_
    exact ⟨HBL.out.trans (below_grown HG5.out HBL.out.size (fun k hk => by have := Option.some.inj hk; omega)), Or.inr ⟨HNO.out, rfl⟩⟩
  have b1 : ((d.toNat : Int) != 32) = false := by subst h32; rfl
  have HBB : Hid (HeadBB a) := ⟨ht, by rw [HD.out, h32]⟩
  have HFORM := hidden (headB_form HBB.out)
  clear ht h32 hdt HD HG
  generalize pcs 32 (a.drop 4) = ps at *
  have P1 := hidden (PA.out W)
  go_wp2_with fail
  go_at_call 36
  refine P1.out.mono ?_
  rintro e w1 ⟨v, rfl, ho, hb1⟩
  have HB1 : Hid (Below w.heap.size w w1) := HBL.out.trans (hb1.mono HBL.out.size)
  have HQ1 := hidden ((hb1.block hb hbl).trans HQ.out)
  have hs1 := hb1.size
  have p0 : w1.cell? ⟨hb, 0, none⟩ = some (.int .i64 0) := heap_cell HQ1.out
  have p1 : w1.cell? ⟨hb, 1, none⟩ = some (.int .i64 0) := heap_cell HQ1.out
  have p2 : w1.cell? ⟨hb, 2, none⟩ = some (.int .i64 0) := heap_cell HQ1.out
  have p3 : w1.cell? ⟨hb, 3, none⟩ = some (.int .i64 0) := heap_cell HQ1.out
  have pf : ∀ j, w1.frozen? ⟨hb, j, none⟩ = false := fun j => heap_fz HQ1.out j
  clear hb1 P1 PA q0 q1 q2 q3 f0 HBL HQ g0 b1 hce x1 x2
  obtain ⟨ok, HOK⟩ : ∃ b, Hid (ps.all numOk = b) := ⟨_, rfl⟩
  rw [HOK.out] at ho
  rw [HOK.out]
  cases ok
  · have HNO : Hid (¬ ∃ h, HeadLB a h) := fun ⟨x, hx⟩ => by have := ((HFORM.out x).1 hx).1; rw [HOK.out] at this; cases this
    clear ho
    go_wp2_with fail
    go_quiet (fail)
    generalize hDW : World.drewN w1 _ = w2
    have HBL : Hid (Below w.heap.size w w2) := by rw [← hDW]; exact Below.drewN HB1.out _
    have q0 : w2.cell? ⟨hb, 0, none⟩ = some (.int .i64 0) := by rw [← hDW]; exact p0
    have q1 : w2.cell? ⟨hb, 1, none⟩ = some (.int .i64 0) := by rw [← hDW]; exact p1
    have q2 : w2.cell? ⟨hb, 2, none⟩ = some (.int .i64 0) := by rw [← hDW]; exact p2
    have q3 : w2.cell? ⟨hb, 3, none⟩ = some (.int .i64 0) := by rw [← hDW]; exact p3
    have f0 : ∀ j, w2.frozen? ⟨hb, j, none⟩ = false := by rw [← hDW]; exact pf
    clear hDW p0 p1 p2 p3 pf
    have HG5 : Hid (w2.grownBy ((((w2.setCell ⟨hb, 0, none⟩ (.int .i64 0)).setCell ⟨hb, 1, none⟩ (.int .i64 0)).setCell ⟨hb, 2, none⟩ (.int .i64 0)).setCell ⟨hb, 3, none⟩ (.int .i64 0)) (some hb)) := grown_trans (grown_trans (grown_trans (gset _ _ _ _) (gset _ _ _ _)) (gset _ _ _ _)) (gset _ _ _ _)
    obtain ⟨z0, z1, z2, z3⟩ := set4 q0 q1 q2 q3 (.int .i64 0) (.int .i64 0) (.int .i64 0) (.int .i64 0)
    go_wp2
    generalize World.setCell _ (⟨hb, 3, none⟩ : Addr) _ = w5 at HG5 z0 z1 z2 z3 ⊢
    clear q0 q1 q2 q3 f0
    refine bodyPost_ret (v := .tuple #[zeroH, .bool false]) (by simp [results, Tryd.results24, go_sem, zeroH, *]) rfl ?_
    exact ⟨HBL.out.trans (below_grown HG5.out HBL.out.size (fun k hk => by have := Option.some.inj hk; omega)), Or.inr ⟨HNO.out, rfl⟩⟩
  have ho' : w1.ownsRow W.heap.size 3 1 v (ps.map numV).length ((ps.map numV).map iV) := by
    have := ho rfl
    rw [List.map_map, List.length_map]; exact this
  have hxl : (ps.map numV).length ≤ 1048577 := by rw [List.length_map]; exact HPL.out
  have hxb := val_bound HOK.out
  have HFX : Hid (∀ x : Int × Int × Int × Int × Int, HeadLB a x ↔ ps.map numV = [x.1, x.2.1, x.2.2.1, x.2.2.2.1, x.2.2.2.2] ∧ rightH x) := fun x => by rw [HFORM.out x, HOK.out]; simp
  generalize ps.map numV = xs at *
  clear ho HFORM HOK HPL
  by_cases h5 : xs.length = 5
  rotate_left
  · have HNO : Hid (¬ ∃ h, HeadLB a h) := fun ⟨x, hx⟩ => h5 (by have := ((HFX.out x).1 hx).1; rw [this]; rfl)
    obtain ⟨va, vc, hv⟩ : ∃ a c, v = .slice a xs.length c := by
      rcases ho'.2 with ⟨h0, h1⟩ | ⟨g, cap, cur, hv, _⟩
      · exact ⟨none, 0, by rw [h0, h1]⟩
      · exact ⟨_, _, hv⟩
    subst hv
    have h5b : ((xs.length : Int) != 5) = true := by simp; omega
    clear ho' h5
    go_wp2_with fail
    go_quiet (fail)
    generalize hDW : World.drewN w1 _ = w2
    have HBL : Hid (Below w.heap.size w w2) := by rw [← hDW]; exact Below.drewN HB1.out _
    have q0 : w2.cell? ⟨hb, 0, none⟩ = some (.int .i64 0) := by rw [← hDW]; exact p0
    have q1 : w2.cell? ⟨hb, 1, none⟩ = some (.int .i64 0) := by rw [← hDW]; exact p1
    have q2 : w2.cell? ⟨hb, 2, none⟩ = some (.int .i64 0) := by rw [← hDW]; exact p2
    have q3 : w2.cell? ⟨hb, 3, none⟩ = some (.int .i64 0) := by rw [← hDW]; exact p3
    have f0 : ∀ j, w2.frozen? ⟨hb, j, none⟩ = false := by rw [← hDW]; exact pf
    clear hDW p0 p1 p2 p3 pf
    have HG5 : Hid (w2.grownBy ((((w2.setCell ⟨hb, 0, none⟩ (.int .i64 0)).setCell ⟨hb, 1, none⟩ (.int .i64 0)).setCell ⟨hb, 2, none⟩ (.int .i64 0)).setCell ⟨hb, 3, none⟩ (.int .i64 0)) (some hb)) := grown_trans (grown_trans (grown_trans (gset _ _ _ _) (gset _ _ _ _)) (gset _ _ _ _)) (gset _ _ _ _)
    obtain ⟨z0, z1, z2, z3⟩ := set4 q0 q1 q2 q3 (.int .i64 0) (.int .i64 0) (.int .i64 0) (.int .i64 0)
    go_wp2
    generalize World.setCell _ (⟨hb, 3, none⟩ : Addr) _ = w5 at HG5 z0 z1 z2 z3 ⊢
    clear q0 q1 q2 q3 f0
    refine bodyPost_ret (v := .tuple #[zeroH, .bool false]) (by simp [results, Tryd.results24, go_sem, zeroH, *]) rfl ?_
    exact ⟨HBL.out.trans (below_grown HG5.out HBL.out.size (fun k hk => by have := Option.some.inj hk; omega)), Or.inr ⟨HNO.out, rfl⟩⟩
  obtain ⟨y0, y1, y2, y3, y4, rfl⟩ : ∃ y0 y1 y2 y3 y4, xs = [y0, y1, y2, y3, y4] := by
    match xs, h5 with
    | [y0, y1, y2, y3, y4], _ => exact ⟨y0, y1, y2, y3, y4, rfl⟩
  obtain ⟨lb, lc, rfl, hlb, hlb2, hlc, hel⟩ := row_els ho' (by simp)
  have d0 := hel 0 y0 rfl
  have d1 := hel 1 y1 rfl
  have d2 := hel 2 y2 rfl
  have d3 := hel 3 y3 rfl
  have d4 := hel 4 y4 rfl
  have b0 := hxb y0 (by simp)
  have b1 := hxb y1 (by simp)
  have b2 := hxb y2 (by simp)
  have b3 := hxb y3 (by simp)
  have b4 := hxb y4 (by simp)
  have e1 : IntKind.i64.wrap (y1 + y2) = y1 + y2 := wrapI _ (by omega) (by omega)
  have e2 : IntKind.i64.wrap (y1 + y2 + y4) = y1 + y2 + y4 := wrapI _ (by omega) (by omega)
  have HRT : Hid (∀ x, HeadLB a x → y0 = y1 + y2 + y4 ∧ y0 < 60000 ∧ y2 ≤ 6000 ∧ y3 ≤ 60000) := fun x hx => by
    obtain ⟨p0, p1, p2, p3, p4⟩ := x
    obtain ⟨h1, h2⟩ := (HFX.out _).1 hx
    simp only [List.cons.injEq] at h1
    unfold rightH at h2
    simp only at h2
    omega
  simp only [List.length_cons, List.length_nil, Nat.zero_add, Nat.reduceAdd] at *
  clear hxb ho' hel hxl h5
  by_cases k0 : y0 = y1 + y2 + y4
  rotate_left
  · have HNO : Hid (¬ ∃ h, HeadLB a h) := fun ⟨x, hx⟩ => k0 (HRT.out x hx).1
    have kb0 : (y0 != y1 + y2 + y4) = true := by simp [k0]
    go_wp2_with fail
    go_quiet (fail)
    generalize hDW : World.drewN w1 _ = w2
    have HBL : Hid (Below w.heap.size w w2) := by rw [← hDW]; exact Below.drewN HB1.out _
    have q0 : w2.cell? ⟨hb, 0, none⟩ = some (.int .i64 0) := by rw [← hDW]; exact p0
    have q1 : w2.cell? ⟨hb, 1, none⟩ = some (.int .i64 0) := by rw [← hDW]; exact p1
    have q2 : w2.cell? ⟨hb, 2, none⟩ = some (.int .i64 0) := by rw [← hDW]; exact p2
    have q3 : w2.cell? ⟨hb, 3, none⟩ = some (.int .i64 0) := by rw [← hDW]; exact p3
    have f0 : ∀ j, w2.frozen? ⟨hb, j, none⟩ = false := by rw [← hDW]; exact pf
    clear hDW p0 p1 p2 p3 pf
    have HG5 : Hid (w2.grownBy ((((w2.setCell ⟨hb, 0, none⟩ (.int .i64 0)).setCell ⟨hb, 1, none⟩ (.int .i64 0)).setCell ⟨hb, 2, none⟩ (.int .i64 0)).setCell ⟨hb, 3, none⟩ (.int .i64 0)) (some hb)) := grown_trans (grown_trans (grown_trans (gset _ _ _ _) (gset _ _ _ _)) (gset _ _ _ _)) (gset _ _ _ _)
    obtain ⟨z0, z1, z2, z3⟩ := set4 q0 q1 q2 q3 (.int .i64 0) (.int .i64 0) (.int .i64 0) (.int .i64 0)
    go_wp2
    generalize World.setCell _ (⟨hb, 3, none⟩ : Addr) _ = w5 at HG5 z0 z1 z2 z3 ⊢
    clear q0 q1 q2 q3 f0
    refine bodyPost_ret (v := .tuple #[zeroH, .bool false]) (by simp [results, Tryd.results24, go_sem, zeroH, *]) rfl ?_
    exact ⟨HBL.out.trans (below_grown HG5.out HBL.out.size (fun k hk => by have := Option.some.inj hk; omega)), Or.inr ⟨HNO.out, rfl⟩⟩
  have kb0 : (y0 != y1 + y2 + y4) = false := by simp [k0]
  by_cases k1 : y0 < 60000
  rotate_left
  · have HNO : Hid (¬ ∃ h, HeadLB a h) := fun ⟨x, hx⟩ => k1 (HRT.out x hx).2.1
    have kb1 : (60000 : Int) ≤ y0 := by omega
    have K0 := hidden k0
    clear k0
    go_wp2_with fail
    go_quiet (fail)
    generalize hDW : World.drewN w1 _ = w2
    have HBL : Hid (Below w.heap.size w w2) := by rw [← hDW]; exact Below.drewN HB1.out _
    have q0 : w2.cell? ⟨hb, 0, none⟩ = some (.int .i64 0) := by rw [← hDW]; exact p0
    have q1 : w2.cell? ⟨hb, 1, none⟩ = some (.int .i64 0) := by rw [← hDW]; exact p1
    have q2 : w2.cell? ⟨hb, 2, none⟩ = some (.int .i64 0) := by rw [← hDW]; exact p2
    have q3 : w2.cell? ⟨hb, 3, none⟩ = some (.int .i64 0) := by rw [← hDW]; exact p3
    have f0 : ∀ j, w2.frozen? ⟨hb, j, none⟩ = false := by rw [← hDW]; exact pf
    clear hDW p0 p1 p2 p3 pf
    have HG5 : Hid (w2.grownBy ((((w2.setCell ⟨hb, 0, none⟩ (.int .i64 0)).setCell ⟨hb, 1, none⟩ (.int .i64 0)).setCell ⟨hb, 2, none⟩ (.int .i64 0)).setCell ⟨hb, 3, none⟩ (.int .i64 0)) (some hb)) := grown_trans (grown_trans (grown_trans (gset _ _ _ _) (gset _ _ _ _)) (gset _ _ _ _)) (gset _ _ _ _)
    obtain ⟨z0, z1, z2, z3⟩ := set4 q0 q1 q2 q3 (.int .i64 0) (.int .i64 0) (.int .i64 0) (.int .i64 0)
    go_wp2
    generalize World.setCell _ (⟨hb, 3, none⟩ : Addr) _ = w5 at HG5 z0 z1 z2 z3 ⊢
    clear q0 q1 q2 q3 f0
    refine bodyPost_ret (v := .tuple #[zeroH, .bool false]) (by simp [results, Tryd.results24, go_sem, zeroH, *]) rfl ?_
    exact ⟨HBL.out.trans (below_grown HG5.out HBL.out.size (fun k hk => by have := Option.some.inj hk; omega)), Or.inr ⟨HNO.out, rfl⟩⟩
  have kb1 : ¬ (60000 : Int) ≤ y0 := by omega
  by_cases k2 : y2 ≤ 6000
  rotate_left
  · have HNO : Hid (¬ ∃ h, HeadLB a h) := fun ⟨x, hx⟩ => k2 (HRT.out x hx).2.2.1
    have kb2 : (6000 : Int) < y2 := by omega
    have K0 := hidden k0
    clear k0
    go_wp2_with fail
    go_quiet (fail)
    generalize hDW : World.drewN w1 _ = w2
    have HBL : Hid (Below w.heap.size w w2) := by rw [← hDW]; exact Below.drewN HB1.out _
    have q0 : w2.cell? ⟨hb, 0, none⟩ = some (.int .i64 0) := by rw [← hDW]; exact p0
    have q1 : w2.cell? ⟨hb, 1, none⟩ = some (.int .i64 0) := by rw [← hDW]; exact p1
    have q2 : w2.cell? ⟨hb, 2, none⟩ = some (.int .i64 0) := by rw [← hDW]; exact p2
    have q3 : w2.cell? ⟨hb, 3, none⟩ = some (.int .i64 0) := by rw [← hDW]; exact p3
    have f0 : ∀ j, w2.frozen? ⟨hb, j, none⟩ = false := by rw [← hDW]; exact pf
    clear hDW p0 p1 p2 p3 pf
    have HG5 : Hid (w2.grownBy ((((w2.setCell ⟨hb, 0, none⟩ (.int .i64 0)).setCell ⟨hb, 1, none⟩ (.int .i64 0)).setCell ⟨hb, 2, none⟩ (.int .i64 0)).setCell ⟨hb, 3, none⟩ (.int .i64 0)) (some hb)) := grown_trans (grown_trans (grown_trans (gset _ _ _ _) (gset _ _ _ _)) (gset _ _ _ _)) (gset _ _ _ _)
    obtain ⟨z0, z1, z2, z3⟩ := set4 q0 q1 q2 q3 (.int .i64 0) (.int .i64 0) (.int .i64 0) (.int .i64 0)
    go_wp2
    generalize World.setCell _ (⟨hb, 3, none⟩ : Addr) _ = w5 at HG5 z0 z1 z2 z3 ⊢
    clear q0 q1 q2 q3 f0
    refine bodyPost_ret (v := .tuple #[zeroH, .bool false]) (by simp [results, Tryd.results24, go_sem, zeroH, *]) rfl ?_
    exact ⟨HBL.out.trans (below_grown HG5.out HBL.out.size (fun k hk => by have := Option.some.inj hk; omega)), Or.inr ⟨HNO.out, rfl⟩⟩
  have kb2 : ¬ (6000 : Int) < y2 := by omega
  by_cases k3 : y3 ≤ 60000
  rotate_left
  · have HNO : Hid (¬ ∃ h, HeadLB a h) := fun ⟨x, hx⟩ => k3 (HRT.out x hx).2.2.2
    have kb3 : (60000 : Int) < y3 := by omega
    have K0 := hidden k0
    clear k0
    go_wp2_with fail
    go_quiet (fail)
    generalize hDW : World.drewN w1 _ = w2
    have HBL : Hid (Below w.heap.size w w2) := by rw [← hDW]; exact Below.drewN HB1.out _
    have q0 : w2.cell? ⟨hb, 0, none⟩ = some (.int .i64 0) := by rw [← hDW]; exact p0
    have q1 : w2.cell? ⟨hb, 1, none⟩ = some (.int .i64 0) := by rw [← hDW]; exact p1
    have q2 : w2.cell? ⟨hb, 2, none⟩ = some (.int .i64 0) := by rw [← hDW]; exact p2
    have q3 : w2.cell? ⟨hb, 3, none⟩ = some (.int .i64 0) := by rw [← hDW]; exact p3
    have f0 : ∀ j, w2.frozen? ⟨hb, j, none⟩ = false := by rw [← hDW]; exact pf
    clear hDW p0 p1 p2 p3 pf
    have HG5 : Hid (w2.grownBy ((((w2.setCell ⟨hb, 0, none⟩ (.int .i64 0)).setCell ⟨hb, 1, none⟩ (.int .i64 0)).setCell ⟨hb, 2, none⟩ (.int .i64 0)).setCell ⟨hb, 3, none⟩ (.int .i64 0)) (some hb)) := grown_trans (grown_trans (grown_trans (gset _ _ _ _) (gset _ _ _ _)) (gset _ _ _ _)) (gset _ _ _ _)
    obtain ⟨z0, z1, z2, z3⟩ := set4 q0 q1 q2 q3 (.int .i64 0) (.int .i64 0) (.int .i64 0) (.int .i64 0)
    go_wp2
    generalize World.setCell _ (⟨hb, 3, none⟩ : Addr) _ = w5 at HG5 z0 z1 z2 z3 ⊢
    clear q0 q1 q2 q3 f0
    refine bodyPost_ret (v := .tuple #[zeroH, .bool false]) (by simp [results, Tryd.results24, go_sem, zeroH, *]) rfl ?_
    exact ⟨HBL.out.trans (below_grown HG5.out HBL.out.size (fun k hk => by have := Option.some.inj hk; omega)), Or.inr ⟨HNO.out, rfl⟩⟩
  have kb3 : ¬ (60000 : Int) < y3 := by omega
  have HHL : Hid (HeadLB a (hInts y1.toNat y2.toNat y3.toNat y4.toNat)) := by
    refine (HFX.out _).2 ⟨?_, ?_⟩
    · unfold hInts
      simp only [List.cons.injEq, and_true]
      omega
    · unfold rightH hInts
      simp only
      omega
  have HT1 : Hid ((y1.toNat : Int) = y1) := by show _ = _; omega
  have HT2 : Hid ((y2.toNat : Int) = y2) := by show _ = _; omega
  have HT3 : Hid ((y3.toNat : Int) = y3) := by show _ = _; omega
  have HT4 : Hid ((y4.toNat : Int) = y4) := by show _ = _; omega
  have K0 := hidden k0
  clear k0 k1 k2 k3 HFX HRT
  go_wp2_with fail
  go_quiet (fail)
  generalize hDW : World.drewN w1 _ = w2
  have HBL : Hid (Below w.heap.size w w2) := by rw [← hDW]; exact Below.drewN HB1.out _
  have q0 : w2.cell? ⟨hb, 0, none⟩ = some (.int .i64 0) := by rw [← hDW]; exact p0
  have q1 : w2.cell? ⟨hb, 1, none⟩ = some (.int .i64 0) := by rw [← hDW]; exact p1
  have q2 : w2.cell? ⟨hb, 2, none⟩ = some (.int .i64 0) := by rw [← hDW]; exact p2
  have q3 : w2.cell? ⟨hb, 3, none⟩ = some (.int .i64 0) := by rw [← hDW]; exact p3
  have f0 : ∀ j, w2.frozen? ⟨hb, j, none⟩ = false := by rw [← hDW]; exact pf
  have l1 : w2.cell? ⟨lb, 1, none⟩ = some (.int .i64 y1) := by rw [← hDW]; exact d1
  have l2 : w2.cell? ⟨lb, 2, none⟩ = some (.int .i64 y2) := by rw [← hDW]; exact d2
  have l3 : w2.cell? ⟨lb, 3, none⟩ = some (.int .i64 y3) := by rw [← hDW]; exact d3
  have l4 : w2.cell? ⟨lb, 4, none⟩ = some (.int .i64 y4) := by rw [← hDW]; exact d4
  clear hDW p0 p1 p2 p3 pf d0 d1 d2 d3 d4
  have KS : Hid (((((w2.drew.setCell ⟨hb, 0, none⟩ (.int .i64 y1)).setCell ⟨hb, 1, none⟩ (.int .i64 y2)).setCell ⟨hb, 2, none⟩ (.int .i64 y3)).setCell ⟨hb, 3, none⟩ (.int .i64 y4)).cell? ⟨lb, 1, none⟩ = some (.int .i64 y1) ∧ ((((w2.drew.setCell ⟨hb, 0, none⟩ (.int .i64 y1)).setCell ⟨hb, 1, none⟩ (.int .i64 y2)).setCell ⟨hb, 2, none⟩ (.int .i64 y3)).setCell ⟨hb, 3, none⟩ (.int .i64 y4)).cell? ⟨lb, 2, none⟩ = some (.int .i64 y2) ∧ ((((w2.drew.setCell ⟨hb, 0, none⟩ (.int .i64 y1)).setCell ⟨hb, 1, none⟩ (.int .i64 y2)).setCell ⟨hb, 2, none⟩ (.int .i64 y3)).setCell ⟨hb, 3, none⟩ (.int .i64 y4)).cell? ⟨lb, 3, none⟩ = some (.int .i64 y3) ∧ ((((w2.drew.setCell ⟨hb, 0, none⟩ (.int .i64 y1)).setCell ⟨hb, 1, none⟩ (.int .i64 y2)).setCell ⟨hb, 2, none⟩ (.int .i64 y3)).setCell ⟨hb, 3, none⟩ (.int .i64 y4)).cell? ⟨lb, 4, none⟩ = some (.int .i64 y4)) := by
    have far : ∀ (u : World) (i j : Nat) (x : Value), (u.setCell ⟨hb, i, none⟩ x).cell? ⟨lb, j, none⟩ = u.cell? ⟨lb, j, none⟩ := fun u i j x => World.cell?_setCell_far u ⟨hb, i, none⟩ ⟨lb, j, none⟩ x (by show hb ≠ lb; omega)
    refine ⟨?_, ?_, ?_, ?_⟩
    · rw [far, far, far, far]; exact l1
    · rw [far, far, far, far]; exact l2
    · rw [far, far, far, far]; exact l3
    · rw [far, far, far, far]; exact l4
  have qd0 : w2.drew.cell? ⟨hb, 0, none⟩ = some (.int .i64 0) := q0
  have qd1 : w2.drew.cell? ⟨hb, 1, none⟩ = some (.int .i64 0) := q1
  have qd2 : w2.drew.cell? ⟨hb, 2, none⟩ = some (.int .i64 0) := q2
  have qd3 : w2.drew.cell? ⟨hb, 3, none⟩ = some (.int .i64 0) := q3
  have fd : ∀ j, w2.drew.frozen? ⟨hb, j, none⟩ = false := f0
  go_upto_region 6 with fail
  refine wp_region_noPanic ?_
  refine wp_region_held_drew (S := (fun w' => w'.cell? ⟨lb, 1, none⟩ = some (.int .i64 y1) ∧ w'.cell? ⟨lb, 2, none⟩ = some (.int .i64 y2) ∧ w'.cell? ⟨lb, 3, none⟩ = some (.int .i64 y3) ∧ w'.cell? ⟨lb, 4, none⟩ = some (.int .i64 y4))) (by kernel_rfl) (by first | assumption | exact ⟨l1, l2, l3, l4⟩ | exact KS.out) (fun hHeld => ?_)
  refine wpAnyH_take (i := 0) (oi := _) (v := ?_) rfl (by kernel_rfl) (by kernel_rfl) (by kernel_rfl) (fun _ _ _ h => h) (Or.inl ⟨by rfl, ?_⟩) (by assumption) ?_
  rotate_left
  · (intro w0 hSw; (try dsimp only at hSw); (try simp only [List.getElem_toArray, List.getElem_cons_zero]); go_simp; try (with_reducible rfl))
  try simp only [Act.put, List.getElem_toArray, List.getElem_cons_zero, List.setIfInBounds_toArray, List.set_cons_zero, List.set_cons_succ]
  refine wpAnyH_take (i := 1) (oi := _) (v := ?_) rfl (by kernel_rfl) (by kernel_rfl) (by kernel_rfl) (fun _ _ _ h => h) (Or.inl ⟨by rfl, ?_⟩) (by assumption) ?_
  rotate_left
  · (intro w0 hSw; (try dsimp only at hSw); (try simp only [List.getElem_toArray, List.getElem_cons_zero, List.getElem_cons_succ]); go_simp; try (with_reducible rfl))
  try simp only [Act.put, List.getElem_toArray, List.getElem_cons_zero, List.getElem_cons_succ, List.setIfInBounds_toArray, List.set_cons_zero, List.set_cons_succ]
  refine wpAnyH_take (i := 2) (oi := _) (v := ?_) rfl (by kernel_rfl) (by kernel_rfl) (by kernel_rfl) (fun _ _ _ h => h) (Or.inl ⟨by rfl, ?_⟩) (by assumption) ?_
  rotate_left
  · (intro w0 hSw; (try dsimp only at hSw); (try simp only [List.getElem_toArray, List.getElem_cons_zero, List.getElem_cons_succ]); go_simp; try (with_reducible rfl))
  try simp only [Act.put, List.getElem_toArray, List.getElem_cons_zero, List.getElem_cons_succ, List.setIfInBounds_toArray, List.set_cons_zero, List.set_cons_succ]
  refine wpAnyH_take (i := 3) (oi := _) (v := ?_) rfl (by kernel_rfl) (by kernel_rfl) (by kernel_rfl) (fun _ _ _ h => h) (Or.inl ⟨by rfl, ?_⟩) (by assumption) ?_
  rotate_left
  · (intro w0 hSw; (try dsimp only at hSw); (try simp only [List.getElem_toArray, List.getElem_cons_zero, List.getElem_cons_succ]); go_simp; try (with_reducible rfl))
  try simp only [Act.put, List.getElem_toArray, List.getElem_cons_zero, List.getElem_cons_succ, List.setIfInBounds_toArray, List.set_cons_zero, List.set_cons_succ]
  refine wpAnyH_take (i := 4) (oi := _) (v := ?_) rfl (by kernel_rfl) (by kernel_rfl) (by kernel_rfl) (fun _ _ _ h => h) (Or.inl ⟨by rfl, ?_⟩) (by assumption) ?_
  rotate_left
  · (intro w0 hSw; (try dsimp only at hSw); (try simp only [List.getElem_toArray, List.getElem_cons_zero, List.getElem_cons_succ]); go_simp; try (with_reducible rfl))
  try simp only [Act.put, List.getElem_toArray, List.getElem_cons_zero, List.getElem_cons_succ, List.setIfInBounds_toArray, List.set_cons_zero, List.set_cons_succ]
  refine wpAnyH_take (i := 5) (oi := _) (v := ?_) rfl (by kernel_rfl) (by kernel_rfl) (by kernel_rfl) (fun _ _ _ h => h) (Or.inl ⟨by rfl, ?_⟩) (by assumption) ?_
  rotate_left
  · (intro w0 hSw; (try dsimp only at hSw); (try simp only [List.getElem_toArray, List.getElem_cons_zero, List.getElem_cons_succ]); go_simp; try (with_reducible rfl))
  try simp only [Act.put, List.getElem_toArray, List.getElem_cons_zero, List.getElem_cons_succ, List.setIfInBounds_toArray, List.set_cons_zero, List.set_cons_succ]
  refine wpAnyH_take (i := 6) (oi := _) (v := ?_) rfl (by kernel_rfl) (by kernel_rfl) (by kernel_rfl) (fun _ _ _ h => h) (Or.inl ⟨by rfl, ?_⟩) (by assumption) ?_
  rotate_left
  · (intro w0 hSw; (try dsimp only at hSw); (try simp only [List.getElem_toArray, List.getElem_cons_zero, List.getElem_cons_succ]); go_simp; try (with_reducible rfl))
  try simp only [Act.put, List.getElem_toArray, List.getElem_cons_zero, List.getElem_cons_succ, List.setIfInBounds_toArray, List.set_cons_zero, List.set_cons_succ]
  refine wpAnyH_take (i := 7) (oi := _) (v := ?_) rfl (by kernel_rfl) (by kernel_rfl) (by kernel_rfl) (fun _ _ _ h => h) (Or.inl ⟨by rfl, ?_⟩) (by assumption) ?_
  rotate_left
  · (intro w0 hSw; (try dsimp only at hSw); (try simp only [List.getElem_toArray, List.getElem_cons_zero, List.getElem_cons_succ]); go_simp; try (with_reducible rfl))
  try simp only [Act.put, List.getElem_toArray, List.getElem_cons_zero, List.getElem_cons_succ, List.setIfInBounds_toArray, List.set_cons_zero, List.set_cons_succ]
  refine wpAnyH_take (i := 8) (oi := _) (v := ?_) rfl (by kernel_rfl) (by kernel_rfl) (by kernel_rfl) (fun _ _ _ h => h) (Or.inl ⟨by rfl, ?_⟩) (by assumption) ?_
  rotate_left
  · (intro w0 hSw; (try dsimp only at hSw); (try simp only [List.getElem_toArray, List.getElem_cons_zero, List.getElem_cons_succ]); go_simp; try (with_reducible rfl))
  try simp only [Act.put, List.getElem_toArray, List.getElem_cons_zero, List.getElem_cons_succ, List.setIfInBounds_toArray, List.set_cons_zero, List.set_cons_succ]
  refine wpAnyH_take (i := 9) (oi := _) (v := ?_) rfl (by kernel_rfl) (by kernel_rfl) (by kernel_rfl) (fun _ _ _ h => h) (Or.inl ⟨by rfl, ?_⟩) (by assumption) ?_
  rotate_left
  · (intro w0 hSw; (try dsimp only at hSw); (try simp only [List.getElem_toArray, List.getElem_cons_zero, List.getElem_cons_succ]); go_simp; try (with_reducible rfl))
  try simp only [Act.put, List.getElem_toArray, List.getElem_cons_zero, List.getElem_cons_succ, List.setIfInBounds_toArray, List.set_cons_zero, List.set_cons_succ]
  refine wpAnyH_take (i := 10) (oi := _) (v := ?_) rfl (by kernel_rfl) (by kernel_rfl) (by kernel_rfl) (fun _ _ _ h => h) (Or.inl ⟨by rfl, ?_⟩) (by assumption) ?_
  rotate_left
  · (intro w0 hSw; (try dsimp only at hSw); (try simp only [List.getElem_toArray, List.getElem_cons_zero, List.getElem_cons_succ]); go_simp; try (with_reducible rfl))
  try simp only [Act.put, List.getElem_toArray, List.getElem_cons_zero, List.getElem_cons_succ, List.setIfInBounds_toArray, List.set_cons_zero, List.set_cons_succ]
  refine wpAnyH_take (i := 11) (oi := _) (v := ?_) rfl (by kernel_rfl) (by kernel_rfl) (by kernel_rfl) (fun _ _ _ h => h) (Or.inl ⟨by rfl, ?_⟩) (by assumption) ?_
  rotate_left
  · (intro w0 hSw; (try dsimp only at hSw); (try simp only [List.getElem_toArray, List.getElem_cons_zero, List.getElem_cons_succ]); go_simp; try (with_reducible rfl))
  try simp only [Act.put, List.getElem_toArray, List.getElem_cons_zero, List.getElem_cons_succ, List.setIfInBounds_toArray, List.set_cons_zero, List.set_cons_succ]
  refine wpAnyH_take (i := 12) (oi := _) (v := ?_) rfl (by kernel_rfl) (by kernel_rfl) (by kernel_rfl) (fun _ _ _ h => h) (Or.inl ⟨by rfl, ?_⟩) (by assumption) ?_
  rotate_left
  · (intro w0 hSw; (try dsimp only at hSw); (try simp only [List.getElem_toArray, List.getElem_cons_zero, List.getElem_cons_succ]); go_simp; try (with_reducible rfl))
  try simp only [Act.put, List.getElem_toArray, List.getElem_cons_zero, List.getElem_cons_succ, List.setIfInBounds_toArray, List.set_cons_zero, List.set_cons_succ]
  refine wpAnyH_ready (rs := [13]) (by kernel_rfl) (by simp) ?_
  refine AllReadyH.cons (o := _) rfl (fun K hK => ?_) AllReadyH.nil
  (try simp only [List.getElem_toArray, List.getElem_cons_zero, List.getElem_cons_succ])
  go_simp
  skip
  go_wp2_with fail
  refine hK.out _ _ (by first | assumption | exact ⟨l1, l2, l3, l4⟩ | exact KS.out) (fun hHeld1 => ?_)
  clear hK K
  try simp only [Act.put, List.setIfInBounds_toArray, List.set_cons_zero, List.set_cons_succ]
  refine wpAnyH_take (i := 14) (oi := _) (v := ?_) rfl (by kernel_rfl) (by kernel_rfl) (by kernel_rfl) (fun _ _ _ h => h) (Or.inl ⟨by rfl, ?_⟩) (by assumption) ?_
  rotate_left
  · (intro w0 hSw; (try dsimp only at hSw); (try simp only [List.getElem_toArray, List.getElem_cons_zero, List.getElem_cons_succ]); go_simp; try (with_reducible rfl))
  try simp only [Act.put, List.getElem_toArray, List.getElem_cons_zero, List.getElem_cons_succ, List.setIfInBounds_toArray, List.set_cons_zero, List.set_cons_succ]
  refine wpAnyH_done (by kernel_rfl) ?_ _
  refine NoPanic.normal ?_
  obtain ⟨z0, z1, z2, z3⟩ := set4 q0 q1 q2 q3 (.int .i64 y1) (.int .i64 y2) (.int .i64 y3) (.int .i64 y4)
  have HG5 : Hid (w2.grownBy ((((w2.setCell ⟨hb, 0, none⟩ (.int .i64 y1)).setCell ⟨hb, 1, none⟩ (.int .i64 y2)).setCell ⟨hb, 2, none⟩ (.int .i64 y3)).setCell ⟨hb, 3, none⟩ (.int .i64 y4)) (some hb)) := grown_trans (grown_trans (grown_trans (gset _ _ _ _) (gset _ _ _ _)) (gset _ _ _ _)) (gset _ _ _ _)
  generalize World.setCell _ (⟨hb, 3, none⟩ : Addr) _ = w5 at HG5 z0 z1 z2 z3 ⊢
  generalize hW9 : World.drew w5 = w9
  have HG9 : Hid (w2.grownBy w9 (some hb)) := by rw [← hW9]; exact grown_trans HG5.out (grown_drew _ _)
  have t0 : w9.cell? ⟨hb, 0, none⟩ = some (.int .i64 y1) := by rw [← hW9]; exact z0
  have t1 : w9.cell? ⟨hb, 1, none⟩ = some (.int .i64 y2) := by rw [← hW9]; exact z1
  have t2 : w9.cell? ⟨hb, 2, none⟩ = some (.int .i64 y3) := by rw [← hW9]; exact z2
  have t3 : w9.cell? ⟨hb, 3, none⟩ = some (.int .i64 y4) := by rw [← hW9]; exact z3
  clear hW9 z0 z1 z2 z3 q0 q1 q2 q3 f0 fd qd0 qd1 qd2 qd3 l1 l2 l3 l4 KS hHeld hHeld1
  go_wp2_with fail
  refine bodyPost_ret (v := .tuple #[.agg #[.int .i64 y1, .int .i64 y2, .int .i64 y3, .int .i64 y4], .bool true]) (by simp [results, Tryd.results24, go_sem, *]) rfl ?_
  refine ⟨HBL.out.trans (below_grown HG9.out HBL.out.size (fun k hk => by have := Option.some.inj hk; omega)), Or.inl ⟨_, _, _, _, HHL.out, ?_⟩⟩
  rw [HT1.out, HT2.out, HT3.out, HT4.out]


end Go.Proofs.YtdiahnommkhkiaaDoor
