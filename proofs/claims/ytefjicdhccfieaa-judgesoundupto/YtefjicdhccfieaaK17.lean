import Derived.Test.YtefjicdhccfieaaK01
import Derived.Test.YtefjicdhccfieaaK16
set_option maxRecDepth 100000
set_option maxHeartbeats 16000000
namespace Go.Proofs.Ytefjicdhccfieaa
open Go.RowKit
def mvL (Q : GrD) (fl fg : Int) (d : LatD) : LatD := ⟨mvF Q fl fg d.next, d.init⟩
def mvA (Q : GrD) (fl fg : Int) (d : AndD) : AndD := ⟨mvF Q fl fg d.x, mvF Q fl fg d.y⟩
def TakeP (C : Nat) (w : World) (gb : Nat) (ins : Int) (G : GrD) (w' : World) : Prop := ∃ u', TkP C w' gb ins u' G [] ∧ Below C w w'
def takeG (G0 Q : GrD) (fl fg : Int) : GrD := ⟨G0.ins, G0.lats ++ Q.lats.map (mvL Q fl fg), G0.ands ++ Q.ands.map (mvA Q fl fg), G0.outs ++ Q.outs.map (mvF Q fl fg)⟩
theorem take_any (C : Nat) (w : World) (gb : Nat) (ins : Int) (G0 : GrD) (u0 : Nat → Value) (hT : TkP C w gb ins u0 G0 []) (pp : Nat) (S : GrS) (Q : GrD) (hX : BoxAt w pp S Q) (hA : GrAt C w S Q) (hppC : pp < C) (fl fg : Int) (hfl : 0 ≤ fl ∧ fl ≤ 1000000) (hfg : 0 ≤ fg ∧ fg ≤ 1000000)
  (hq : 0 ≤ Q.ins ∧ Q.ins ≤ 60000 ∧ Q.lats.length ≤ 100000 ∧ Q.ands.length ≤ 100000 ∧ Q.outs.length ≤ 100000) (hll : ∀ d, d ∈ Q.lats → 0 ≤ d.next ∧ d.next ≤ 4000000) (hal : ∀ d, d ∈ Q.ands → (0 ≤ d.x ∧ d.x ≤ 4000000) ∧ (0 ≤ d.y ∧ d.y ≤ 4000000)) (hol : ∀ x, x ∈ Q.outs → 0 ≤ x ∧ x ≤ 4000000) (hG0l : G0.lats.length ≤ 100000) (hG0a : G0.ands.length ≤ 100000) (hG0o : G0.outs.length ≤ 100000) :
  Calls Try.prog 60 #[.pointer (some ⟨gb, 0, none⟩), .pointer (some ⟨pp, 0, none⟩), .int .i64 fl, .int .i64 fg] w fun e w' => e = .returned (.tuple #[]) ∧ TakeP C w gb ins (takeG G0 Q fl fg) w' := by
 have HX := hidden hX
 have HGA := hidden hA
 have HQB := hidden hq
 have HLL := hidden hll
 have HAL := hidden hal
 have HOL := hidden hol
 have HT0 := hidden hT
 obtain ⟨qnl, HQl⟩ : ∃ n, Hid (n = Q.lats.length) := ⟨_, rfl⟩
 obtain ⟨qna, HQa⟩ : ∃ n, Hid (n = Q.ands.length) := ⟨_, rfl⟩
 obtain ⟨qno, HQo⟩ : ∃ n, Hid (n = Q.outs.length) := ⟨_, rfl⟩
 have hqs : qnl ≤ 100000 ∧ qna ≤ 100000 ∧ qno ≤ 100000 := by rw [HQl.out, HQa.out, HQo.out]; exact ⟨hq.2.2.1, hq.2.2.2.1, hq.2.2.2.2⟩
 have hmf : ∀ (fn : Fn) (first cap : Array Value) (w : World), (Instr.makeFunc fn first cap).run Try.prog w = .ok (.func fn first cap) w := fun _ _ _ _ => rfl
 clear hX hA hq hll hal hol hT
 go_enter Try.func60, Try.ntmps60
 go_upto_region 1 with fail
 have s1 : (w.alloc (.cells #[.pointer (some ⟨pp, 0, none⟩)] 57)).heap.size = w.heap.size + 1 := by simp
 have b1 := heap_new w (.cells #[.pointer (some ⟨pp, 0, none⟩)] 57)
 have B1 : Below w.heap.size w (w.alloc (.cells #[.pointer (some ⟨pp, 0, none⟩)] 57)) := (Below.refl _ _).alloc (Nat.le_refl _) _
 generalize w.alloc (.cells #[.pointer (some ⟨pp, 0, none⟩)] 57) = w1 at *
 have s2 : (w1.alloc (.cells #[.int .i64 fl] 3)).heap.size = w1.heap.size + 1 := by simp
 have b2 := heap_new w1 (.cells #[.int .i64 fl] 3)
 have B2 : Below w1.heap.size w1 (w1.alloc (.cells #[.int .i64 fl] 3)) := (Below.refl _ _).alloc (Nat.le_refl _) _
 generalize w1.alloc (.cells #[.int .i64 fl] 3) = w2 at *
 have s3 : (w2.alloc (.cells #[.int .i64 fg] 3)).heap.size = w2.heap.size + 1 := by simp
 have b3 := heap_new w2 (.cells #[.int .i64 fg] 3)
 have B3 : Below w2.heap.size w2 (w2.alloc (.cells #[.int .i64 fg] 3)) := (Below.refl _ _).alloc (Nat.le_refl _) _
 generalize w2.alloc (.cells #[.int .i64 fg] 3) = W at *
 obtain ⟨c5, h5⟩ : ∃ x, x = w.heap.size := ⟨_, rfl⟩
 obtain ⟨c6, h6⟩ : ∃ x, x = w.heap.size + 1 := ⟨_, rfl⟩
 obtain ⟨c7, h7⟩ : ∃ x, x = w.heap.size + 1 + 1 := ⟨_, rfl⟩
 have d5 : W.heap[c5]? = some (.cells #[.pointer (some ⟨pp, 0, none⟩)] 57 (0, 0)) := (B3.block c5 (by omega)).trans ((B2.block c5 (by omega)).trans (by rw [h5]; exact b1))
 have HC5 : Hid (W.cell? ⟨c5, 0, none⟩ = some (.pointer (some ⟨pp, 0, none⟩))) := (cell_of_row _ _ 0 _ _ (0, 0) d5).trans rfl
 have d6 : W.heap[c6]? = some (.cells #[.int .i64 fl] 3 (0, 0)) := (B3.block c6 (by omega)).trans (by rw [h6, ← s1]; exact b2)
 have HC6 : Hid (W.cell? ⟨c6, 0, none⟩ = some (.int .i64 fl)) := (cell_of_row _ _ 0 _ _ (0, 0) d6).trans rfl
 have d7 : W.heap[c7]? = some (.cells #[.int .i64 fg] 3 (0, 0)) := by rw [h7, ← s1, ← s2]; exact b3
 have HC7 : Hid (W.cell? ⟨c7, 0, none⟩ = some (.int .i64 fg)) := (cell_of_row _ _ 0 _ _ (0, 0) d7).trans rfl
 have hC := HT0.out.size
 have HTl : Hid (∃ u', TkP C W gb ins u' G0 [c5, c6, c7]) := ⟨u0, (((HT0.out.more B1 c5 (by omega) (by omega)).more B2 c6 (by omega) (by omega)).more B3 c7 (by omega) (by omega)).drop (fun b hb => by simp at hb ⊢; rcases hb with h | h | h <;> simp [h])⟩
 have HBl : Hid (Below C w W) := (B1.mono hC).trans ((B2.mono (by omega)).trans (B3.mono (by omega)))
 rw [← h7, ← h6, ← h5]
 clear b1 b2 b3 B1 B2 B3 s1 s2 s3 h5 h6 h7 d5 d6 d7
 have e5 := HC5.out
 have e6 := (HX.out.to hppC HBl.out).c1
 rw [← HQl.out] at e6
 go_wp2_with fail
 clear e5 e6
 go_loopw [21] (fun i' w' => ∃ (i : Nat), i ≤ qnl ∧ i' = .int .i64 i ∧ Hid (∃ u', TkP C w' gb ins u' (⟨G0.ins, G0.lats ++ (Q.lats.take (i)).map (mvL Q fl fg), G0.ands, G0.outs⟩) [c5, c6, c7]) ∧ Hid (∀ b, b ∈ [c5, c6, c7] → w'.heap[b]? = W.heap[b]?) ∧ Hid (Below C w w')) (fun i' _ => qnl - (intOf i').toNat)
 case atStart => exact ⟨0, Nat.zero_le _, rfl, by show ∃ u', TkP _ _ _ _ _ _ _; simpa using HTl.out, fun _ _ => rfl, HBl.out⟩
 case round =>
  obtain ⟨i, hi, rfl, HTk, HPk, HBk⟩ := hrel
  by_cases hlt : i < qnl
  ·obtain ⟨u, ht⟩ := HTk.out
   have HT := hidden ht
   clear ht HTk
   have hltI : (i : Int) < (qnl : Int) := by omega
   obtain ⟨d, hd⟩ := getElem_lt (show i < Q.lats.length by have := HQl.out; omega)
   have HDI := hidden hd
   obtain ⟨b, o, ea, hlb, hc⟩ := (HGA.out.to HBk.out).l.el hd
   have c0 : wr.cell? ⟨b, o + i * 2, none⟩ = some (.int .i64 d.next) := hc 0 _ rfl
   have c1 : wr.cell? ⟨b, o + i * 2 + 1, none⟩ = some (.bool d.init) := hc 1 _ rfl
   have hdl := HLL.out d (List.mem_of_getElem? hd)
   obtain ⟨nx, it⟩ := d
   dsimp only at c0 c1 hdl
   have e3 : IntKind.i64.wrap ((i : Int) + 1) = (i : Int) + 1 := wrapI _ (by omega) (by omega)
   rw [ea]
   clear hd hc hlb ea
   obtain ⟨il, hi', hz', hs', hby'⟩ := info_lat
   have HI := hidden hi'
   have HZ := hidden hz'
   have HSI := hidden hs'
   have HY := hidden hby'
   clear hi' hz' hs' hby'
   go_upto_region 5 with fail
   generalize hW5 : World.alloc wr _ = w5
   have HB5 : Hid (Below wr.heap.size wr w5) := by rw [← hW5]; exact (Below.refl _ _).alloc (Nat.le_refl _) _
   have z0 : w5.cell? ⟨wr.heap.size, 0, none⟩ = some (.int .i64 nx) := by rw [← hW5]; exact cell_of_row _ _ 0 _ _ (0, 0) (heap_new _ _)
   have z1 : w5.cell? ⟨wr.heap.size, 1, none⟩ = some (.bool it) := by rw [← hW5]; exact cell_of_row _ _ 1 _ _ (0, 0) (heap_new _ _)
   have hzb : wr.heap.size < w5.heap.size := by rw [← hW5]; simp
   have hzg : wr.heap.size ≠ gb := by have := HT.out.lt; omega
   obtain ⟨zb, HZB⟩ : ∃ z, Hid (z = wr.heap.size) := ⟨_, rfl⟩
   have hwz : wr.heap.size ≤ zb := by have := HZB.out; omega
   rw [← HZB.out] at z0 z1 hzb hzg ⊢
   clear hW5 c0 c1
   have HT5 : Hid (TkP C w5 gb ins u (⟨G0.ins, G0.lats ++ (Q.lats.take (i)).map (mvL Q fl fg), G0.ands, G0.outs⟩) [c5, c6, c7]) := HT.out.rest HB5.out
   have HBw5 : Hid (Below C w w5) := HBk.out.trans (HB5.out.mono HT.out.size)
   have HP5 : Hid (∀ b, b ∈ [c5, c6, c7] → w5.heap[b]? = W.heap[b]?) := fun b hb => (HB5.out.block b (HT.out.ps.1 b hb).1).trans (HPk.out b hb)
   obtain ⟨uf, HUF⟩ : ∃ x, Hid (x = u 1) := ⟨_, rfl⟩
   obtain ⟨fn, HFN⟩ : ∃ x : Nat, Hid (x = (⟨G0.ins, G0.lats ++ (Q.lats.take (i)).map (mvL Q fl fg), G0.ands, G0.outs⟩ : GrD).lats.length) := ⟨_, rfl⟩
   have g5 : w5.cell? ⟨gb, 1, none⟩ = some uf := by rw [HUF.out]; exact HT5.out.fld 1 (by decide)
   have hgb5 : gb < w5.heap.size := HT5.out.lt
   have HFAR : Hid (uf.ownBlock ≠ some gb) := by rw [HUF.out]; exact HT5.out.nb 1
   have hfn : fn ≤ 400000 := by
    rw [HFN.out]
    simp only [List.length_append, List.length_map, List.length_take]
    have := hG0l
    omega
   have hm1 : fn + 1 ≤ maxLen := by simp only [maxLen]; omega
   have hm2 : (fn + 1) * 16 ≤ 140737488355328 := by omega
   have K1 : Hid (∀ w', Below w5.heap.size w5 w' → (fun w' => w'.cell? ⟨zb, 0, none⟩ = some (.int .i64 nx) ∧ w'.cell? ⟨zb, 1, none⟩ = some (.bool it)) w') := fun w' hb => ⟨(hb.cell (p := ⟨zb, 0, none⟩) hzb).trans z0, (hb.cell (p := ⟨zb, 1, none⟩) hzb).trans z1⟩
   have KG : Hid (∀ (v w' : World), Below w5.heap.size w5 v → v.grownBy w' uf.ownBlock → (fun w' => w'.cell? ⟨zb, 0, none⟩ = some (.int .i64 nx) ∧ w'.cell? ⟨zb, 1, none⟩ = some (.bool it)) w') := fun v w' hb hg => by
    have hbv := K1.out v hb
    have hfar : uf.ownBlock ≠ some zb := fun e => by rw [HUF.out] at e; have := (HT.out.ps.2 _ zb e).2; omega
    exact ⟨(World.cell?_of_block (hg.block zb (Nat.lt_of_lt_of_le hzb hb.size) (fun e => hfar e.symm))).trans hbv.1, (World.cell?_of_block (hg.block zb (Nat.lt_of_lt_of_le hzb hb.size) (fun e => hfar e.symm))).trans hbv.2⟩
   have KSS : Hid (∀ (w' : World) (v : Value), (fun w' => w'.cell? ⟨zb, 0, none⟩ = some (.int .i64 nx) ∧ w'.cell? ⟨zb, 1, none⟩ = some (.bool it)) w' → (fun w' => w'.cell? ⟨zb, 0, none⟩ = some (.int .i64 nx) ∧ w'.cell? ⟨zb, 1, none⟩ = some (.bool it)) (w'.setCell ⟨gb, 1, none⟩ v)) := fun w' v hh => by
    exact ⟨(World.cell?_setCell_far _ _ _ _ (fun e => hzg (by have e' : gb = zb := e; exact e'.symm))).trans hh.1, (World.cell?_setCell_far _ _ _ _ (fun e => hzg (by have e' : gb = zb := e; exact e'.symm))).trans hh.2⟩
   have MV : Hid (∀ (l : Int) (w' : World), Below w5.heap.size w5 w' → 0 ≤ l ∧ l ≤ 4000000 → Calls Try.prog 75 #[.int .i64 l, .pointer (some ⟨c5, 0, none⟩), .pointer (some ⟨c6, 0, none⟩), .pointer (some ⟨c7, 0, none⟩)] w' fun e w'' => e = .returned (.int .i64 (mvF Q fl fg l)) ∧ ∃ n, w'' = w'.drewN n) := fun l w' hb hl => by
    have h5 : ∀ b, b ∈ [c5, c6, c7] → w'.heap[b]? = W.heap[b]? := fun b hb' => (hb.block b (HT5.out.ps.1 b hb').1).trans (HP5.out b hb')
    refine moved_any w' c5 c6 c7 pp S Q fl fg l ?_ ?_ ?_ (HX.out.to hppC (HBw5.out.trans (hb.mono HT5.out.size))) HQB.out.1 HQB.out.2.1 (by have := HQB.out.2.2.1; simp only [big]; omega) hl hfl hfg
    ·rw [World.cell?_of_block (h5 c5 (by simp))]; exact HC5.out
    ·rw [World.cell?_of_block (h5 c6 (by simp))]; exact HC6.out
    ·rw [World.cell?_of_block (h5 c7 (by simp))]; exact HC7.out
   clear HPk HBk HB5
   refine wp_region_noPanic ?_
   refine wp_region_held_drew (S := (fun w' => w'.cell? ⟨zb, 0, none⟩ = some (.int .i64 nx) ∧ w'.cell? ⟨zb, 1, none⟩ = some (.bool it))) (by kernel_rfl) (by first | assumption | trivial | exact K1.out _ (Below.refl _ _) | exact K1.out _ (Below.drew (Below.refl _ _)) | exact K1.out _ (by assumption) | exact KSS.out _ _ (by assumption)) (fun hHeld => ?_)
   refine tk 0 ?_
   refine tk 1 ?_
   refine tk 2 ?_
   refine tk 3 ?_
   refine tk 5 ?_
   refine tk 6 ?_
   refine tk 7 ?_
   refine tk 9 ?_
   refine tk 10 ?_
   refine wpAnyH_ready (rs := [4, 8]) (by kernel_rfl) (by simp) ?_
   refine AllReadyH.cons (o := _) rfl (fun K hK => ?_) ?_
   ·(try simp only [gA, gB, gC])
    go_simp
    refine hK.out _ _ (by first | assumption | trivial | exact K1.out _ (Below.refl _ _) | exact K1.out _ (Below.drew (Below.refl _ _)) | exact K1.out _ (by assumption) | exact KSS.out _ _ (by assumption)) (fun hHeld4 => ?_)
    clear hK K
    (try simp only [Act.put]); (try simp only [sA]); (try simp only [sB, sC])
    refine wpAnyH_ready (rs := [8]) (by kernel_rfl) (by simp) ?_
    refine AllReadyH.cons (o := _) rfl (fun K hK => ?_) AllReadyH.nil
    (try simp only [gA, gB, gC])
    go_simp
    go_at_call 75
    refine (MV.out nx _ (Below.drew (Below.refl w5.heap.size w5)) hdl).mono ?_
    rintro e v1 ⟨rfl, nd1, hv1⟩
    have hb_v1 : Below w5.heap.size w5 v1 := by rw [hv1]; exact Below.drewN (Below.drew (Below.refl w5.heap.size w5)) nd1
    clear hv1
    have gv1 : v1.cell? ⟨gb, 1, none⟩ = some uf := (hb_v1.cell (p := ⟨gb, 1, none⟩) hgb5).trans g5
    have hgv1 : gb < v1.heap.size := Nat.lt_of_lt_of_le hgb5 hb_v1.size
    go_wp2_with fail
    refine hK.out _ _ (by first | assumption | trivial | exact K1.out _ (Below.refl _ _) | exact K1.out _ (Below.drew (Below.refl _ _)) | exact K1.out _ (by assumption) | exact KSS.out _ _ (by assumption)) (fun hHeld8 => ?_)
    clear hK K
    (try simp only [Act.put]); (try simp only [sA]); (try simp only [sB, sC])
    refine tk 11 ?_
    refine wpAnyH_ready (rs := [12]) (by kernel_rfl) (by simp) ?_
    refine AllReadyH.cons (o := _) rfl (fun K hK => ?_) AllReadyH.nil
    (try simp only [gA, gB, gC])
    go_simp
    refine hK.out _ _ (by first | assumption | trivial | exact K1.out _ (hb_v1.alloc hb_v1.size _)) (fun hHeld12 => ?_)
    clear hK K
    (try simp only [Act.put]); (try simp only [sA]); (try simp only [sB, sC])
    refine wpAnyH_ready (rs := [13]) (by kernel_rfl) (by simp) ?_
    refine AllReadyH.cons (o := _) rfl (fun K hK => ?_) AllReadyH.nil
    have HOW : Hid (v1.ownsRow C 55 2 uf fn ((⟨G0.ins, G0.lats ++ (Q.lats.take (i)).map (mvL Q fl fg), G0.ands, G0.outs⟩ : GrD).lats.flatMap LatD.cells)) := by
     have := (HT5.out.rest hb_v1).l
     rw [← HUF.out, ← HFN.out] at this
     exact this
    have hm3 : C ≤ (v1.alloc (.cells #[.int .i64 (mvF Q fl fg nx), .bool it] 55)).heap.size := by have := (HT5.out.rest hb_v1).size; simp; omega
    refine step_append_lies _ rfl (.tmp 29) (.tmp 37) 27 rfl C 55 il _ 2 16 Try.underlying27 HI.out HZ.out HSI.out HY.out rfl (by decide) uf fn _ rfl (HOW.out.alloc _) ⟨v1.heap.size, 0, none⟩ 1 1 [.int .i64 (mvF Q fl fg nx), .bool it] rfl rfl (World.news_of_block (heap_new _ _)) (by simp [Value.oneCell']) (by decide) hm1 hm2 hm3 _ rfl ?_
    intro g cap w6 hown hgrow hat hlt6
    have hg6 := grown_trn (World.grownBy_alloc v1 _ _) hgrow
    have hc6 : w6.cell? ⟨gb, 1, none⟩ = some uf := (hg6.cell_far ⟨gb, 1, none⟩ hgv1 (fun e => HFAR.out e.symm)).trans gv1
    have hf6 : w6.frozen? ⟨gb, 1, none⟩ = false := (hg6.frozen_far ⟨gb, 1, none⟩ hgv1 (fun e => HFAR.out e.symm)).trans (frozen_of_row _ _ _ _ _ (HT5.out.rest hb_v1).box)
    have K3 := KG.out _ _ hb_v1 hg6
    refine hK.out _ _ (by first | assumption | exact K3) (fun hHeldp => ?_)
    clear hK K
    (try simp only [Act.put]); (try simp only [sA]); (try simp only [sB, sC])
    refine tk 14 ?_
    refine tk 15 ?_
    refine wpAnyH_ready (rs := [16]) (by kernel_rfl) (by simp) ?_
    refine AllReadyH.cons (o := _) rfl (fun K hK => ?_) AllReadyH.nil
    (try simp only [gA, gB, gC])
    go_simp
    refine hK.out _ _ (by first | assumption | trivial | exact K1.out _ (Below.refl _ _) | exact K1.out _ (Below.drew (Below.refl _ _)) | exact K1.out _ (by assumption) | exact KSS.out _ _ (by assumption)) (fun hHeld16 => ?_)
    clear hK K
    (try simp only [Act.put]); (try simp only [sA]); (try simp only [sB, sC])
    refine wpAnyH_done (by kernel_rfl) ?_ _
    refine NoPanic.normal ?_
    obtain ⟨t1, t2, t3⟩ := (HT5.out.rest hb_v1).pushl ⟨mvF Q fl fg nx, it⟩ (g := g) (cap := cap) (by rw [← HUF.out]; exact hg6) (by rw [← HFN.out]; exact hown) (by
     rw [← HUF.out]
     rcases hat with h | h
     ·exact .inl h
     ·refine .inr ?_
      simp at h
      omega)
    rw [← HFN.out] at t1 t2 t3
    have HB9 : Hid (Below C w (w6.setCell ⟨gb, 1, none⟩ (.slice (some ⟨g, 0, none⟩) (fn + 1) cap))) := (HBw5.out.trans (hb_v1.mono HT5.out.size)).trans t2
    have HP9 : Hid (∀ b, b ∈ [c5, c6, c7] → (w6.setCell ⟨gb, 1, none⟩ (.slice (some ⟨g, 0, none⟩) (fn + 1) cap)).heap[b]? = W.heap[b]?) := fun b hb => (t3 b hb).trans ((hb_v1.block b (HT5.out.ps.1 b hb).1).trans (HP5.out b hb))
    have HT9 := hidden t1
    clear t1 t2 t3
    generalize World.setCell w6 _ _ = w9 at HT9 HB9 HP9 ⊢
    have HT9' : Hid (∃ u', TkP C w9 gb ins u' (⟨G0.ins, G0.lats ++ (Q.lats.take (i + 1)).map (mvL Q fl fg), G0.ands, G0.outs⟩) [c5, c6, c7]) := by
     show ∃ u', TkP _ _ _ _ _ _ _
     rw [take_next _ i _ HDI.out, List.map_append, ← List.append_assoc]
     exact ⟨_, HT9.out⟩
    clear HT9 hown hgrow hat hlt6 hg6 hc6 hf6 K3 K1 KG KSS MV HOW hm3
    go_wp2
    go_roundw
    case measure => simp [intOf]; omega
    case rel => exact ⟨i + 1, by omega, by simp, HT9'.out, HP9.out, HB9.out⟩
   refine AllReadyH.cons (o := _) rfl (fun K hK => ?_) AllReadyH.nil
   (try simp only [gA, gB, gC])
   go_simp
   go_at_call 75
   refine (MV.out nx _ (Below.drew (Below.refl w5.heap.size w5)) hdl).mono ?_
   rintro e v1 ⟨rfl, nd1, hv1⟩
   have hb_v1 : Below w5.heap.size w5 v1 := by rw [hv1]; exact Below.drewN (Below.drew (Below.refl w5.heap.size w5)) nd1
   clear hv1
   have gv1 : v1.cell? ⟨gb, 1, none⟩ = some uf := (hb_v1.cell (p := ⟨gb, 1, none⟩) hgb5).trans g5
   have hgv1 : gb < v1.heap.size := Nat.lt_of_lt_of_le hgb5 hb_v1.size
   go_wp2_with fail
   refine hK.out _ _ (by first | assumption | trivial | exact K1.out _ (Below.refl _ _) | exact K1.out _ (Below.drew (Below.refl _ _)) | exact K1.out _ (by assumption) | exact KSS.out _ _ (by assumption)) (fun hHeld8 => ?_)
   clear hK K
   (try simp only [Act.put]); (try simp only [sA]); (try simp only [sB, sC])
   refine tk 11 ?_
   refine wpAnyH_ready (rs := [4, 12]) (by kernel_rfl) (by simp) ?_
   refine AllReadyH.cons (o := _) rfl (fun K hK => ?_) ?_
   ·(try simp only [gA, gB, gC])
    go_simp
    refine hK.out _ _ (by first | assumption | trivial | exact K1.out _ (Below.refl _ _) | exact K1.out _ (Below.drew (Below.refl _ _)) | exact K1.out _ (by assumption) | exact KSS.out _ _ (by assumption)) (fun hHeld4 => ?_)
    clear hK K
    (try simp only [Act.put]); (try simp only [sA]); (try simp only [sB, sC])
    refine wpAnyH_ready (rs := [12]) (by kernel_rfl) (by simp) ?_
    refine AllReadyH.cons (o := _) rfl (fun K hK => ?_) AllReadyH.nil
    (try simp only [gA, gB, gC])
    go_simp
    refine hK.out _ _ (by first | assumption | trivial | exact K1.out _ (hb_v1.alloc hb_v1.size _)) (fun hHeld12 => ?_)
    clear hK K
    (try simp only [Act.put]); (try simp only [sA]); (try simp only [sB, sC])
    refine wpAnyH_ready (rs := [13]) (by kernel_rfl) (by simp) ?_
    refine AllReadyH.cons (o := _) rfl (fun K hK => ?_) AllReadyH.nil
    have HOW : Hid (v1.ownsRow C 55 2 uf fn ((⟨G0.ins, G0.lats ++ (Q.lats.take (i)).map (mvL Q fl fg), G0.ands, G0.outs⟩ : GrD).lats.flatMap LatD.cells)) := by
     have := (HT5.out.rest hb_v1).l
     rw [← HUF.out, ← HFN.out] at this
     exact this
    have hm3 : C ≤ (v1.alloc (.cells #[.int .i64 (mvF Q fl fg nx), .bool it] 55)).heap.size := by have := (HT5.out.rest hb_v1).size; simp; omega
    refine step_append_lies _ rfl (.tmp 29) (.tmp 37) 27 rfl C 55 il _ 2 16 Try.underlying27 HI.out HZ.out HSI.out HY.out rfl (by decide) uf fn _ rfl (HOW.out.alloc _) ⟨v1.heap.size, 0, none⟩ 1 1 [.int .i64 (mvF Q fl fg nx), .bool it] rfl rfl (World.news_of_block (heap_new _ _)) (by simp [Value.oneCell']) (by decide) hm1 hm2 hm3 _ rfl ?_
    intro g cap w6 hown hgrow hat hlt6
    have hg6 := grown_trn (World.grownBy_alloc v1 _ _) hgrow
    have hc6 : w6.cell? ⟨gb, 1, none⟩ = some uf := (hg6.cell_far ⟨gb, 1, none⟩ hgv1 (fun e => HFAR.out e.symm)).trans gv1
    have hf6 : w6.frozen? ⟨gb, 1, none⟩ = false := (hg6.frozen_far ⟨gb, 1, none⟩ hgv1 (fun e => HFAR.out e.symm)).trans (frozen_of_row _ _ _ _ _ (HT5.out.rest hb_v1).box)
    have K3 := KG.out _ _ hb_v1 hg6
    refine hK.out _ _ (by first | assumption | exact K3) (fun hHeldp => ?_)
    clear hK K
    (try simp only [Act.put]); (try simp only [sA]); (try simp only [sB, sC])
    refine tk 14 ?_
    refine tk 15 ?_
    refine wpAnyH_ready (rs := [16]) (by kernel_rfl) (by simp) ?_
    refine AllReadyH.cons (o := _) rfl (fun K hK => ?_) AllReadyH.nil
    (try simp only [gA, gB, gC])
    go_simp
    refine hK.out _ _ (by first | assumption | trivial | exact K1.out _ (Below.refl _ _) | exact K1.out _ (Below.drew (Below.refl _ _)) | exact K1.out _ (by assumption) | exact KSS.out _ _ (by assumption)) (fun hHeld16 => ?_)
    clear hK K
    (try simp only [Act.put]); (try simp only [sA]); (try simp only [sB, sC])
    refine wpAnyH_done (by kernel_rfl) ?_ _
    refine NoPanic.normal ?_
    obtain ⟨t1, t2, t3⟩ := (HT5.out.rest hb_v1).pushl ⟨mvF Q fl fg nx, it⟩ (g := g) (cap := cap) (by rw [← HUF.out]; exact hg6) (by rw [← HFN.out]; exact hown) (by
     rw [← HUF.out]
     rcases hat with h | h
     ·exact .inl h
     ·refine .inr ?_
      simp at h
      omega)
    rw [← HFN.out] at t1 t2 t3
    have HB9 : Hid (Below C w (w6.setCell ⟨gb, 1, none⟩ (.slice (some ⟨g, 0, none⟩) (fn + 1) cap))) := (HBw5.out.trans (hb_v1.mono HT5.out.size)).trans t2
    have HP9 : Hid (∀ b, b ∈ [c5, c6, c7] → (w6.setCell ⟨gb, 1, none⟩ (.slice (some ⟨g, 0, none⟩) (fn + 1) cap)).heap[b]? = W.heap[b]?) := fun b hb => (t3 b hb).trans ((hb_v1.block b (HT5.out.ps.1 b hb).1).trans (HP5.out b hb))
    have HT9 := hidden t1
    clear t1 t2 t3
    generalize World.setCell w6 _ _ = w9 at HT9 HB9 HP9 ⊢
    have HT9' : Hid (∃ u', TkP C w9 gb ins u' (⟨G0.ins, G0.lats ++ (Q.lats.take (i + 1)).map (mvL Q fl fg), G0.ands, G0.outs⟩) [c5, c6, c7]) := by
     show ∃ u', TkP _ _ _ _ _ _ _
     rw [take_next _ i _ HDI.out, List.map_append, ← List.append_assoc]
     exact ⟨_, HT9.out⟩
    clear HT9 hown hgrow hat hlt6 hg6 hc6 hf6 K3 K1 KG KSS MV HOW hm3
    go_wp2
    go_roundw
    case measure => simp [intOf]; omega
    case rel => exact ⟨i + 1, by omega, by simp, HT9'.out, HP9.out, HB9.out⟩
   refine AllReadyH.cons (o := _) rfl (fun K hK => ?_) AllReadyH.nil
   (try simp only [gA, gB, gC])
   go_simp
   refine hK.out _ _ (by first | assumption | trivial | exact K1.out _ (hb_v1.alloc hb_v1.size _)) (fun hHeld12 => ?_)
   clear hK K
   (try simp only [Act.put]); (try simp only [sA]); (try simp only [sB, sC])
   refine wpAnyH_ready (rs := [4]) (by kernel_rfl) (by simp) ?_
   refine AllReadyH.cons (o := _) rfl (fun K hK => ?_) AllReadyH.nil
   (try simp only [gA, gB, gC])
   go_simp
   refine hK.out _ _ (by first | assumption | trivial | exact K1.out _ (Below.refl _ _) | exact K1.out _ (Below.drew (Below.refl _ _)) | exact K1.out _ (by assumption) | exact KSS.out _ _ (by assumption)) (fun hHeld4 => ?_)
   clear hK K
   (try simp only [Act.put]); (try simp only [sA]); (try simp only [sB, sC])
   refine wpAnyH_ready (rs := [13]) (by kernel_rfl) (by simp) ?_
   refine AllReadyH.cons (o := _) rfl (fun K hK => ?_) AllReadyH.nil
   have HOW : Hid (v1.ownsRow C 55 2 uf fn ((⟨G0.ins, G0.lats ++ (Q.lats.take (i)).map (mvL Q fl fg), G0.ands, G0.outs⟩ : GrD).lats.flatMap LatD.cells)) := by
    have := (HT5.out.rest hb_v1).l
    rw [← HUF.out, ← HFN.out] at this
    exact this
   have hm3 : C ≤ (v1.alloc (.cells #[.int .i64 (mvF Q fl fg nx), .bool it] 55)).heap.size := by have := (HT5.out.rest hb_v1).size; simp; omega
   refine step_append_lies _ rfl (.tmp 29) (.tmp 37) 27 rfl C 55 il _ 2 16 Try.underlying27 HI.out HZ.out HSI.out HY.out rfl (by decide) uf fn _ rfl (HOW.out.alloc _) ⟨v1.heap.size, 0, none⟩ 1 1 [.int .i64 (mvF Q fl fg nx), .bool it] rfl rfl (World.news_of_block (heap_new _ _)) (by simp [Value.oneCell']) (by decide) hm1 hm2 hm3 _ rfl ?_
   intro g cap w6 hown hgrow hat hlt6
   have hg6 := grown_trn (World.grownBy_alloc v1 _ _) hgrow
   have hc6 : w6.cell? ⟨gb, 1, none⟩ = some uf := (hg6.cell_far ⟨gb, 1, none⟩ hgv1 (fun e => HFAR.out e.symm)).trans gv1
   have hf6 : w6.frozen? ⟨gb, 1, none⟩ = false := (hg6.frozen_far ⟨gb, 1, none⟩ hgv1 (fun e => HFAR.out e.symm)).trans (frozen_of_row _ _ _ _ _ (HT5.out.rest hb_v1).box)
   have K3 := KG.out _ _ hb_v1 hg6
   refine hK.out _ _ (by first | assumption | exact K3) (fun hHeldp => ?_)
   clear hK K
   (try simp only [Act.put]); (try simp only [sA]); (try simp only [sB, sC])
   refine tk 14 ?_
   refine tk 15 ?_
   refine wpAnyH_ready (rs := [16]) (by kernel_rfl) (by simp) ?_
   refine AllReadyH.cons (o := _) rfl (fun K hK => ?_) AllReadyH.nil
   (try simp only [gA, gB, gC])
   go_simp
   refine hK.out _ _ (by first | assumption | trivial | exact K1.out _ (Below.refl _ _) | exact K1.out _ (Below.drew (Below.refl _ _)) | exact K1.out _ (by assumption) | exact KSS.out _ _ (by assumption)) (fun hHeld16 => ?_)
   clear hK K
   (try simp only [Act.put]); (try simp only [sA]); (try simp only [sB, sC])
   refine wpAnyH_done (by kernel_rfl) ?_ _
   refine NoPanic.normal ?_
   obtain ⟨t1, t2, t3⟩ := (HT5.out.rest hb_v1).pushl ⟨mvF Q fl fg nx, it⟩ (g := g) (cap := cap) (by rw [← HUF.out]; exact hg6) (by rw [← HFN.out]; exact hown) (by
    rw [← HUF.out]
    rcases hat with h | h
    ·exact .inl h
    ·refine .inr ?_
     simp at h
     omega)
   rw [← HFN.out] at t1 t2 t3
   have HB9 : Hid (Below C w (w6.setCell ⟨gb, 1, none⟩ (.slice (some ⟨g, 0, none⟩) (fn + 1) cap))) := (HBw5.out.trans (hb_v1.mono HT5.out.size)).trans t2
   have HP9 : Hid (∀ b, b ∈ [c5, c6, c7] → (w6.setCell ⟨gb, 1, none⟩ (.slice (some ⟨g, 0, none⟩) (fn + 1) cap)).heap[b]? = W.heap[b]?) := fun b hb => (t3 b hb).trans ((hb_v1.block b (HT5.out.ps.1 b hb).1).trans (HP5.out b hb))
   have HT9 := hidden t1
   clear t1 t2 t3
   generalize World.setCell w6 _ _ = w9 at HT9 HB9 HP9 ⊢
   have HT9' : Hid (∃ u', TkP C w9 gb ins u' (⟨G0.ins, G0.lats ++ (Q.lats.take (i + 1)).map (mvL Q fl fg), G0.ands, G0.outs⟩) [c5, c6, c7]) := by
    show ∃ u', TkP _ _ _ _ _ _ _
    rw [take_next _ i _ HDI.out, List.map_append, ← List.append_assoc]
    exact ⟨_, HT9.out⟩
   clear HT9 hown hgrow hat hlt6 hg6 hc6 hf6 K3 K1 KG KSS MV HOW hm3
   go_wp2
   go_roundw
   case measure => simp [intOf]; omega
   case rel => exact ⟨i + 1, by omega, by simp, HT9'.out, HP9.out, HB9.out⟩
  ·have hge : ¬ ((i : Int) < (qnl : Int)) := by omega
   have HTE : Hid (∃ u', TkP C wr gb ins u' (⟨G0.ins, G0.lats ++ (Q.lats.take (qnl)).map (mvL Q fl fg), G0.ands, G0.outs⟩) [c5, c6, c7]) := by rw [show qnl = i by omega]; exact HTk.out
   have HPE := HPk
   have HBE := HBk
   clear HTk HPk HBk
   rw [show (Q.lats.take qnl) = Q.lats by rw [HQl.out, List.take_length]] at HTE
   have HTa := HTE
   have HPa := HPE
   have HBa := HBE
   have e5 : wr.cell? ⟨c5, 0, none⟩ = some (.pointer (some ⟨pp, 0, none⟩)) := by rw [World.cell?_of_block (HPa.out c5 (by simp))]; exact HC5.out
   have e6 := (HX.out.to hppC HBa.out).c2
   rw [← HQa.out] at e6
   go_wp2_with fail
   clear e5 e6
   go_loopw [47] (fun i' w' => ∃ (i : Nat), i ≤ qna ∧ i' = .int .i64 i ∧ Hid (∃ u', TkP C w' gb ins u' (⟨G0.ins, G0.lats ++ Q.lats.map (mvL Q fl fg), G0.ands ++ (Q.ands.take (i)).map (mvA Q fl fg), G0.outs⟩) [c5, c6, c7]) ∧ Hid (∀ b, b ∈ [c5, c6, c7] → w'.heap[b]? = W.heap[b]?) ∧ Hid (Below C w w')) (fun i' _ => qna - (intOf i').toNat)
   case atStart => exact ⟨0, Nat.zero_le _, rfl, by show ∃ u', TkP _ _ _ _ _ _ _; simpa using HTa.out, HPa.out, HBa.out⟩
   case round =>
    obtain ⟨i, hi, rfl, HTk, HPk, HBk⟩ := hrel
    by_cases hlt : i < qna
    ·obtain ⟨u, ht⟩ := HTk.out
     have HT := hidden ht
     clear ht HTk
     have hltI : (i : Int) < (qna : Int) := by omega
     obtain ⟨d, hd⟩ := getElem_lt (show i < Q.ands.length by have := HQa.out; omega)
     have HDI := hidden hd
     obtain ⟨b, o, ea, hlb, hc⟩ := (HGA.out.to HBk.out).a.el hd
     have c0 : wr.cell? ⟨b, o + i * 2, none⟩ = some (.int .i64 d.x) := hc 0 _ rfl
     have c1 : wr.cell? ⟨b, o + i * 2 + 1, none⟩ = some (.int .i64 d.y) := hc 1 _ rfl
     have hdl := HAL.out d (List.mem_of_getElem? hd)
     obtain ⟨x, y⟩ := d
     dsimp only at c0 c1 hdl
     have e3 : IntKind.i64.wrap ((i : Int) + 1) = (i : Int) + 1 := wrapI _ (by omega) (by omega)
     rw [ea]
     clear hd hc hlb ea
     obtain ⟨il, hi', hz', hs', hby'⟩ := info_two
     have HI := hidden hi'
     have HZ := hidden hz'
     have HSI := hidden hs'
     have HY := hidden hby'
     clear hi' hz' hs' hby'
     go_upto_region 10 with fail
     generalize hW5 : World.alloc wr _ = w5
     have HB5 : Hid (Below wr.heap.size wr w5) := by rw [← hW5]; exact (Below.refl _ _).alloc (Nat.le_refl _) _
     have z0 : w5.cell? ⟨wr.heap.size, 0, none⟩ = some (.int .i64 x) := by rw [← hW5]; exact cell_of_row _ _ 0 _ _ (0, 0) (heap_new _ _)
     have z1 : w5.cell? ⟨wr.heap.size, 1, none⟩ = some (.int .i64 y) := by rw [← hW5]; exact cell_of_row _ _ 1 _ _ (0, 0) (heap_new _ _)
     have hzb : wr.heap.size < w5.heap.size := by rw [← hW5]; simp
     have hzg : wr.heap.size ≠ gb := by have := HT.out.lt; omega
     obtain ⟨zb, HZB⟩ : ∃ z, Hid (z = wr.heap.size) := ⟨_, rfl⟩
     have hwz : wr.heap.size ≤ zb := by have := HZB.out; omega
     rw [← HZB.out] at z0 z1 hzb hzg ⊢
     clear hW5 c0 c1
     have HT5 : Hid (TkP C w5 gb ins u (⟨G0.ins, G0.lats ++ Q.lats.map (mvL Q fl fg), G0.ands ++ (Q.ands.take (i)).map (mvA Q fl fg), G0.outs⟩) [c5, c6, c7]) := HT.out.rest HB5.out
     have HBw5 : Hid (Below C w w5) := HBk.out.trans (HB5.out.mono HT.out.size)
     have HP5 : Hid (∀ b, b ∈ [c5, c6, c7] → w5.heap[b]? = W.heap[b]?) := fun b hb => (HB5.out.block b (HT.out.ps.1 b hb).1).trans (HPk.out b hb)
     obtain ⟨uf, HUF⟩ : ∃ x, Hid (x = u 2) := ⟨_, rfl⟩
     obtain ⟨fn, HFN⟩ : ∃ x : Nat, Hid (x = (⟨G0.ins, G0.lats ++ Q.lats.map (mvL Q fl fg), G0.ands ++ (Q.ands.take (i)).map (mvA Q fl fg), G0.outs⟩ : GrD).ands.length) := ⟨_, rfl⟩
     have g5 : w5.cell? ⟨gb, 2, none⟩ = some uf := by rw [HUF.out]; exact HT5.out.fld 2 (by decide)
     have hgb5 : gb < w5.heap.size := HT5.out.lt
     have HFAR : Hid (uf.ownBlock ≠ some gb) := by rw [HUF.out]; exact HT5.out.nb 2
     have hfn : fn ≤ 400000 := by
      rw [HFN.out]
      simp only [List.length_append, List.length_map, List.length_take]
      have := hG0a
      omega
     have hm1 : fn + 1 ≤ maxLen := by simp only [maxLen]; omega
     have hm2 : (fn + 1) * 16 ≤ 140737488355328 := by omega
     have K1 : Hid (∀ w', Below w5.heap.size w5 w' → (fun w' => w'.cell? ⟨zb, 0, none⟩ = some (.int .i64 x) ∧ w'.cell? ⟨zb, 1, none⟩ = some (.int .i64 y)) w') := fun w' hb => ⟨(hb.cell (p := ⟨zb, 0, none⟩) hzb).trans z0, (hb.cell (p := ⟨zb, 1, none⟩) hzb).trans z1⟩
     have KG : Hid (∀ (v w' : World), Below w5.heap.size w5 v → v.grownBy w' uf.ownBlock → (fun w' => w'.cell? ⟨zb, 0, none⟩ = some (.int .i64 x) ∧ w'.cell? ⟨zb, 1, none⟩ = some (.int .i64 y)) w') := fun v w' hb hg => by
      have hbv := K1.out v hb
      have hfar : uf.ownBlock ≠ some zb := fun e => by rw [HUF.out] at e; have := (HT.out.ps.2 _ zb e).2; omega
      exact ⟨(World.cell?_of_block (hg.block zb (Nat.lt_of_lt_of_le hzb hb.size) (fun e => hfar e.symm))).trans hbv.1, (World.cell?_of_block (hg.block zb (Nat.lt_of_lt_of_le hzb hb.size) (fun e => hfar e.symm))).trans hbv.2⟩
     have KSS : Hid (∀ (w' : World) (v : Value), (fun w' => w'.cell? ⟨zb, 0, none⟩ = some (.int .i64 x) ∧ w'.cell? ⟨zb, 1, none⟩ = some (.int .i64 y)) w' → (fun w' => w'.cell? ⟨zb, 0, none⟩ = some (.int .i64 x) ∧ w'.cell? ⟨zb, 1, none⟩ = some (.int .i64 y)) (w'.setCell ⟨gb, 2, none⟩ v)) := fun w' v hh => by
      exact ⟨(World.cell?_setCell_far _ _ _ _ (fun e => hzg (by have e' : gb = zb := e; exact e'.symm))).trans hh.1, (World.cell?_setCell_far _ _ _ _ (fun e => hzg (by have e' : gb = zb := e; exact e'.symm))).trans hh.2⟩
     have MV : Hid (∀ (l : Int) (w' : World), Below w5.heap.size w5 w' → 0 ≤ l ∧ l ≤ 4000000 → Calls Try.prog 75 #[.int .i64 l, .pointer (some ⟨c5, 0, none⟩), .pointer (some ⟨c6, 0, none⟩), .pointer (some ⟨c7, 0, none⟩)] w' fun e w'' => e = .returned (.int .i64 (mvF Q fl fg l)) ∧ ∃ n, w'' = w'.drewN n) := fun l w' hb hl => by
      have h5 : ∀ b, b ∈ [c5, c6, c7] → w'.heap[b]? = W.heap[b]? := fun b hb' => (hb.block b (HT5.out.ps.1 b hb').1).trans (HP5.out b hb')
      refine moved_any w' c5 c6 c7 pp S Q fl fg l ?_ ?_ ?_ (HX.out.to hppC (HBw5.out.trans (hb.mono HT5.out.size))) HQB.out.1 HQB.out.2.1 (by have := HQB.out.2.2.1; simp only [big]; omega) hl hfl hfg
      ·rw [World.cell?_of_block (h5 c5 (by simp))]; exact HC5.out
      ·rw [World.cell?_of_block (h5 c6 (by simp))]; exact HC6.out
      ·rw [World.cell?_of_block (h5 c7 (by simp))]; exact HC7.out
     clear HPk HBk HB5
     refine wp_region_noPanic ?_
     refine wp_region_held_drew (S := (fun w' => w'.cell? ⟨zb, 0, none⟩ = some (.int .i64 x) ∧ w'.cell? ⟨zb, 1, none⟩ = some (.int .i64 y))) (by kernel_rfl) (by first | assumption | trivial | exact K1.out _ (Below.refl _ _) | exact K1.out _ (Below.drew (Below.refl _ _)) | exact K1.out _ (by assumption) | exact KSS.out _ _ (by assumption)) (fun hHeld => ?_)
     refine tk 0 ?_
     refine tk 1 ?_
     refine tk 2 ?_
     refine tk 3 ?_
     refine tk 5 ?_
     refine tk 6 ?_
     refine tk 7 ?_
     refine tk 9 ?_
     refine tk 10 ?_
     refine tk 11 ?_
     refine wpAnyH_ready (rs := [4, 8]) (by kernel_rfl) (by simp) ?_
     refine AllReadyH.cons (o := _) rfl (fun K hK => ?_) ?_
     ·(try simp only [gA, gB, gC])
      go_simp
      refine hK.out _ _ (by first | assumption | trivial | exact K1.out _ (Below.refl _ _) | exact K1.out _ (Below.drew (Below.refl _ _)) | exact K1.out _ (by assumption) | exact KSS.out _ _ (by assumption)) (fun hHeld4 => ?_)
      clear hK K
      (try simp only [Act.put]); (try simp only [sA]); (try simp only [sB, sC])
      refine wpAnyH_ready (rs := [8]) (by kernel_rfl) (by simp) ?_
      refine AllReadyH.cons (o := _) rfl (fun K hK => ?_) AllReadyH.nil
      (try simp only [gA, gB, gC])
      go_simp
      go_at_call 75
      refine (MV.out x _ (Below.drew (Below.refl w5.heap.size w5)) hdl.1).mono ?_
      rintro e v1 ⟨rfl, nd1, hv1⟩
      have hb_v1 : Below w5.heap.size w5 v1 := by rw [hv1]; exact Below.drewN (Below.drew (Below.refl w5.heap.size w5)) nd1
      clear hv1
      have gv1 : v1.cell? ⟨gb, 2, none⟩ = some uf := (hb_v1.cell (p := ⟨gb, 2, none⟩) hgb5).trans g5
      have hgv1 : gb < v1.heap.size := Nat.lt_of_lt_of_le hgb5 hb_v1.size
      go_wp2_with fail
      refine hK.out _ _ (by first | assumption | trivial | exact K1.out _ (Below.refl _ _) | exact K1.out _ (Below.drew (Below.refl _ _)) | exact K1.out _ (by assumption) | exact KSS.out _ _ (by assumption)) (fun hHeld8 => ?_)
      clear hK K
      (try simp only [Act.put]); (try simp only [sA]); (try simp only [sB, sC])
      refine wpAnyH_ready (rs := [12]) (by kernel_rfl) (by simp) ?_
      refine AllReadyH.cons (o := _) rfl (fun K hK => ?_) AllReadyH.nil
      (try simp only [gA, gB, gC])
      go_simp
      go_at_call 75
      refine (MV.out y _ (hb_v1) hdl.2).mono ?_
      rintro e v2 ⟨rfl, nd2, hv2⟩
      have hb_v2 : Below w5.heap.size w5 v2 := by rw [hv2]; exact Below.drewN (hb_v1) nd2
      clear hv2
      have gv2 : v2.cell? ⟨gb, 2, none⟩ = some uf := (hb_v2.cell (p := ⟨gb, 2, none⟩) hgb5).trans g5
      have hgv2 : gb < v2.heap.size := Nat.lt_of_lt_of_le hgb5 hb_v2.size
      go_wp2_with fail
      refine hK.out _ _ (by first | assumption | trivial | exact K1.out _ (Below.refl _ _) | exact K1.out _ (Below.drew (Below.refl _ _)) | exact K1.out _ (by assumption) | exact KSS.out _ _ (by assumption)) (fun hHeld12 => ?_)
      clear hK K
      (try simp only [Act.put]); (try simp only [sA]); (try simp only [sB, sC])
      refine tk 13 ?_
      refine wpAnyH_ready (rs := [14]) (by kernel_rfl) (by simp) ?_
      refine AllReadyH.cons (o := _) rfl (fun K hK => ?_) AllReadyH.nil
      (try simp only [gA, gB, gC])
      go_simp
      refine hK.out _ _ (by first | assumption | trivial | exact K1.out _ (hb_v2.alloc hb_v2.size _)) (fun hHeld14 => ?_)
      clear hK K
      (try simp only [Act.put]); (try simp only [sA]); (try simp only [sB, sC])
      refine wpAnyH_ready (rs := [15]) (by kernel_rfl) (by simp) ?_
      refine AllReadyH.cons (o := _) rfl (fun K hK => ?_) AllReadyH.nil
      have HOW : Hid (v2.ownsRow C 33 2 uf fn ((⟨G0.ins, G0.lats ++ Q.lats.map (mvL Q fl fg), G0.ands ++ (Q.ands.take (i)).map (mvA Q fl fg), G0.outs⟩ : GrD).ands.flatMap AndD.cells)) := by
       have := (HT5.out.rest hb_v2).a
       rw [← HUF.out, ← HFN.out] at this
       exact this
      have hm3 : C ≤ (v2.alloc (.cells #[.int .i64 (mvF Q fl fg x), .int .i64 (mvF Q fl fg y)] 33)).heap.size := by have := (HT5.out.rest hb_v2).size; simp; omega
      refine step_append_lies _ rfl (.tmp 55) (.tmp 65) 28 rfl C 33 il _ 2 16 Try.underlying28 HI.out HZ.out HSI.out HY.out rfl (by decide) uf fn _ rfl (HOW.out.alloc _) ⟨v2.heap.size, 0, none⟩ 1 1 [.int .i64 (mvF Q fl fg x), .int .i64 (mvF Q fl fg y)] rfl rfl (World.news_of_block (heap_new _ _)) (by simp [Value.oneCell']) (by decide) hm1 hm2 hm3 _ rfl ?_
      intro g cap w6 hown hgrow hat hlt6
      have hg6 := grown_trn (World.grownBy_alloc v2 _ _) hgrow
      have hc6 : w6.cell? ⟨gb, 2, none⟩ = some uf := (hg6.cell_far ⟨gb, 2, none⟩ hgv2 (fun e => HFAR.out e.symm)).trans gv2
      have hf6 : w6.frozen? ⟨gb, 2, none⟩ = false := (hg6.frozen_far ⟨gb, 2, none⟩ hgv2 (fun e => HFAR.out e.symm)).trans (frozen_of_row _ _ _ _ _ (HT5.out.rest hb_v2).box)
      have K3 := KG.out _ _ hb_v2 hg6
      refine hK.out _ _ (by first | assumption | exact K3) (fun hHeldp => ?_)
      clear hK K
      (try simp only [Act.put]); (try simp only [sA]); (try simp only [sB, sC])
      refine tk 16 ?_
      refine tk 17 ?_
      refine wpAnyH_ready (rs := [18]) (by kernel_rfl) (by simp) ?_
      refine AllReadyH.cons (o := _) rfl (fun K hK => ?_) AllReadyH.nil
      (try simp only [gA, gB, gC])
      go_simp
      refine hK.out _ _ (by first | assumption | trivial | exact K1.out _ (Below.refl _ _) | exact K1.out _ (Below.drew (Below.refl _ _)) | exact K1.out _ (by assumption) | exact KSS.out _ _ (by assumption)) (fun hHeld18 => ?_)
      clear hK K
      (try simp only [Act.put]); (try simp only [sA]); (try simp only [sB, sC])
      refine wpAnyH_done (by kernel_rfl) ?_ _
      refine NoPanic.normal ?_
      obtain ⟨t1, t2, t3⟩ := (HT5.out.rest hb_v2).pusha ⟨mvF Q fl fg x, mvF Q fl fg y⟩ (g := g) (cap := cap) (by rw [← HUF.out]; exact hg6) (by rw [← HFN.out]; exact hown) (by
       rw [← HUF.out]
       rcases hat with h | h
       ·exact .inl h
       ·refine .inr ?_
        simp at h
        omega)
      rw [← HFN.out] at t1 t2 t3
      have HB9 : Hid (Below C w (w6.setCell ⟨gb, 2, none⟩ (.slice (some ⟨g, 0, none⟩) (fn + 1) cap))) := (HBw5.out.trans (hb_v2.mono HT5.out.size)).trans t2
      have HP9 : Hid (∀ b, b ∈ [c5, c6, c7] → (w6.setCell ⟨gb, 2, none⟩ (.slice (some ⟨g, 0, none⟩) (fn + 1) cap)).heap[b]? = W.heap[b]?) := fun b hb => (t3 b hb).trans ((hb_v2.block b (HT5.out.ps.1 b hb).1).trans (HP5.out b hb))
      have HT9 := hidden t1
      clear t1 t2 t3
      generalize World.setCell w6 _ _ = w9 at HT9 HB9 HP9 ⊢
      have HT9' : Hid (∃ u', TkP C w9 gb ins u' (⟨G0.ins, G0.lats ++ Q.lats.map (mvL Q fl fg), G0.ands ++ (Q.ands.take (i + 1)).map (mvA Q fl fg), G0.outs⟩) [c5, c6, c7]) := by
       show ∃ u', TkP _ _ _ _ _ _ _
       rw [take_next _ i _ HDI.out, List.map_append, ← List.append_assoc]
       exact ⟨_, HT9.out⟩
      clear HT9 hown hgrow hat hlt6 hg6 hc6 hf6 K3 K1 KG KSS MV HOW hm3
      go_wp2
      go_roundw
      case measure => simp [intOf]; omega
      case rel => exact ⟨i + 1, by omega, by simp, HT9'.out, HP9.out, HB9.out⟩
     refine AllReadyH.cons (o := _) rfl (fun K hK => ?_) AllReadyH.nil
     (try simp only [gA, gB, gC])
     go_simp
     go_at_call 75
     refine (MV.out x _ (Below.drew (Below.refl w5.heap.size w5)) hdl.1).mono ?_
     rintro e v1 ⟨rfl, nd1, hv1⟩
     have hb_v1 : Below w5.heap.size w5 v1 := by rw [hv1]; exact Below.drewN (Below.drew (Below.refl w5.heap.size w5)) nd1
     clear hv1
     have gv1 : v1.cell? ⟨gb, 2, none⟩ = some uf := (hb_v1.cell (p := ⟨gb, 2, none⟩) hgb5).trans g5
     have hgv1 : gb < v1.heap.size := Nat.lt_of_lt_of_le hgb5 hb_v1.size
     go_wp2_with fail
     refine hK.out _ _ (by first | assumption | trivial | exact K1.out _ (Below.refl _ _) | exact K1.out _ (Below.drew (Below.refl _ _)) | exact K1.out _ (by assumption) | exact KSS.out _ _ (by assumption)) (fun hHeld8 => ?_)
     clear hK K
     (try simp only [Act.put]); (try simp only [sA]); (try simp only [sB, sC])
     refine wpAnyH_ready (rs := [4, 12]) (by kernel_rfl) (by simp) ?_
     refine AllReadyH.cons (o := _) rfl (fun K hK => ?_) ?_
     ·(try simp only [gA, gB, gC])
      go_simp
      refine hK.out _ _ (by first | assumption | trivial | exact K1.out _ (Below.refl _ _) | exact K1.out _ (Below.drew (Below.refl _ _)) | exact K1.out _ (by assumption) | exact KSS.out _ _ (by assumption)) (fun hHeld4 => ?_)
      clear hK K
      (try simp only [Act.put]); (try simp only [sA]); (try simp only [sB, sC])
      refine wpAnyH_ready (rs := [12]) (by kernel_rfl) (by simp) ?_
      refine AllReadyH.cons (o := _) rfl (fun K hK => ?_) AllReadyH.nil
      (try simp only [gA, gB, gC])
      go_simp
      go_at_call 75
      refine (MV.out y _ (hb_v1) hdl.2).mono ?_
      rintro e v2 ⟨rfl, nd2, hv2⟩
      have hb_v2 : Below w5.heap.size w5 v2 := by rw [hv2]; exact Below.drewN (hb_v1) nd2
      clear hv2
      have gv2 : v2.cell? ⟨gb, 2, none⟩ = some uf := (hb_v2.cell (p := ⟨gb, 2, none⟩) hgb5).trans g5
      have hgv2 : gb < v2.heap.size := Nat.lt_of_lt_of_le hgb5 hb_v2.size
      go_wp2_with fail
      refine hK.out _ _ (by first | assumption | trivial | exact K1.out _ (Below.refl _ _) | exact K1.out _ (Below.drew (Below.refl _ _)) | exact K1.out _ (by assumption) | exact KSS.out _ _ (by assumption)) (fun hHeld12 => ?_)
      clear hK K
      (try simp only [Act.put]); (try simp only [sA]); (try simp only [sB, sC])
      refine tk 13 ?_
      refine wpAnyH_ready (rs := [14]) (by kernel_rfl) (by simp) ?_
      refine AllReadyH.cons (o := _) rfl (fun K hK => ?_) AllReadyH.nil
      (try simp only [gA, gB, gC])
      go_simp
      refine hK.out _ _ (by first | assumption | trivial | exact K1.out _ (hb_v2.alloc hb_v2.size _)) (fun hHeld14 => ?_)
      clear hK K
      (try simp only [Act.put]); (try simp only [sA]); (try simp only [sB, sC])
      refine wpAnyH_ready (rs := [15]) (by kernel_rfl) (by simp) ?_
      refine AllReadyH.cons (o := _) rfl (fun K hK => ?_) AllReadyH.nil
      have HOW : Hid (v2.ownsRow C 33 2 uf fn ((⟨G0.ins, G0.lats ++ Q.lats.map (mvL Q fl fg), G0.ands ++ (Q.ands.take (i)).map (mvA Q fl fg), G0.outs⟩ : GrD).ands.flatMap AndD.cells)) := by
       have := (HT5.out.rest hb_v2).a
       rw [← HUF.out, ← HFN.out] at this
       exact this
      have hm3 : C ≤ (v2.alloc (.cells #[.int .i64 (mvF Q fl fg x), .int .i64 (mvF Q fl fg y)] 33)).heap.size := by have := (HT5.out.rest hb_v2).size; simp; omega
      refine step_append_lies _ rfl (.tmp 55) (.tmp 65) 28 rfl C 33 il _ 2 16 Try.underlying28 HI.out HZ.out HSI.out HY.out rfl (by decide) uf fn _ rfl (HOW.out.alloc _) ⟨v2.heap.size, 0, none⟩ 1 1 [.int .i64 (mvF Q fl fg x), .int .i64 (mvF Q fl fg y)] rfl rfl (World.news_of_block (heap_new _ _)) (by simp [Value.oneCell']) (by decide) hm1 hm2 hm3 _ rfl ?_
      intro g cap w6 hown hgrow hat hlt6
      have hg6 := grown_trn (World.grownBy_alloc v2 _ _) hgrow
      have hc6 : w6.cell? ⟨gb, 2, none⟩ = some uf := (hg6.cell_far ⟨gb, 2, none⟩ hgv2 (fun e => HFAR.out e.symm)).trans gv2
      have hf6 : w6.frozen? ⟨gb, 2, none⟩ = false := (hg6.frozen_far ⟨gb, 2, none⟩ hgv2 (fun e => HFAR.out e.symm)).trans (frozen_of_row _ _ _ _ _ (HT5.out.rest hb_v2).box)
      have K3 := KG.out _ _ hb_v2 hg6
      refine hK.out _ _ (by first | assumption | exact K3) (fun hHeldp => ?_)
      clear hK K
      (try simp only [Act.put]); (try simp only [sA]); (try simp only [sB, sC])
      refine tk 16 ?_
      refine tk 17 ?_
      refine wpAnyH_ready (rs := [18]) (by kernel_rfl) (by simp) ?_
      refine AllReadyH.cons (o := _) rfl (fun K hK => ?_) AllReadyH.nil
      (try simp only [gA, gB, gC])
      go_simp
      refine hK.out _ _ (by first | assumption | trivial | exact K1.out _ (Below.refl _ _) | exact K1.out _ (Below.drew (Below.refl _ _)) | exact K1.out _ (by assumption) | exact KSS.out _ _ (by assumption)) (fun hHeld18 => ?_)
      clear hK K
      (try simp only [Act.put]); (try simp only [sA]); (try simp only [sB, sC])
      refine wpAnyH_done (by kernel_rfl) ?_ _
      refine NoPanic.normal ?_
      obtain ⟨t1, t2, t3⟩ := (HT5.out.rest hb_v2).pusha ⟨mvF Q fl fg x, mvF Q fl fg y⟩ (g := g) (cap := cap) (by rw [← HUF.out]; exact hg6) (by rw [← HFN.out]; exact hown) (by
       rw [← HUF.out]
       rcases hat with h | h
       ·exact .inl h
       ·refine .inr ?_
        simp at h
        omega)
      rw [← HFN.out] at t1 t2 t3
      have HB9 : Hid (Below C w (w6.setCell ⟨gb, 2, none⟩ (.slice (some ⟨g, 0, none⟩) (fn + 1) cap))) := (HBw5.out.trans (hb_v2.mono HT5.out.size)).trans t2
      have HP9 : Hid (∀ b, b ∈ [c5, c6, c7] → (w6.setCell ⟨gb, 2, none⟩ (.slice (some ⟨g, 0, none⟩) (fn + 1) cap)).heap[b]? = W.heap[b]?) := fun b hb => (t3 b hb).trans ((hb_v2.block b (HT5.out.ps.1 b hb).1).trans (HP5.out b hb))
      have HT9 := hidden t1
      clear t1 t2 t3
      generalize World.setCell w6 _ _ = w9 at HT9 HB9 HP9 ⊢
      have HT9' : Hid (∃ u', TkP C w9 gb ins u' (⟨G0.ins, G0.lats ++ Q.lats.map (mvL Q fl fg), G0.ands ++ (Q.ands.take (i + 1)).map (mvA Q fl fg), G0.outs⟩) [c5, c6, c7]) := by
       show ∃ u', TkP _ _ _ _ _ _ _
       rw [take_next _ i _ HDI.out, List.map_append, ← List.append_assoc]
       exact ⟨_, HT9.out⟩
      clear HT9 hown hgrow hat hlt6 hg6 hc6 hf6 K3 K1 KG KSS MV HOW hm3
      go_wp2
      go_roundw
      case measure => simp [intOf]; omega
      case rel => exact ⟨i + 1, by omega, by simp, HT9'.out, HP9.out, HB9.out⟩
     refine AllReadyH.cons (o := _) rfl (fun K hK => ?_) AllReadyH.nil
     (try simp only [gA, gB, gC])
     go_simp
     go_at_call 75
     refine (MV.out y _ (hb_v1) hdl.2).mono ?_
     rintro e v2 ⟨rfl, nd2, hv2⟩
     have hb_v2 : Below w5.heap.size w5 v2 := by rw [hv2]; exact Below.drewN (hb_v1) nd2
     clear hv2
     have gv2 : v2.cell? ⟨gb, 2, none⟩ = some uf := (hb_v2.cell (p := ⟨gb, 2, none⟩) hgb5).trans g5
     have hgv2 : gb < v2.heap.size := Nat.lt_of_lt_of_le hgb5 hb_v2.size
     go_wp2_with fail
     refine hK.out _ _ (by first | assumption | trivial | exact K1.out _ (Below.refl _ _) | exact K1.out _ (Below.drew (Below.refl _ _)) | exact K1.out _ (by assumption) | exact KSS.out _ _ (by assumption)) (fun hHeld12 => ?_)
     clear hK K
     (try simp only [Act.put]); (try simp only [sA]); (try simp only [sB, sC])
     refine tk 13 ?_
     refine wpAnyH_ready (rs := [4, 14]) (by kernel_rfl) (by simp) ?_
     refine AllReadyH.cons (o := _) rfl (fun K hK => ?_) ?_
     ·(try simp only [gA, gB, gC])
      go_simp
      refine hK.out _ _ (by first | assumption | trivial | exact K1.out _ (Below.refl _ _) | exact K1.out _ (Below.drew (Below.refl _ _)) | exact K1.out _ (by assumption) | exact KSS.out _ _ (by assumption)) (fun hHeld4 => ?_)
      clear hK K
      (try simp only [Act.put]); (try simp only [sA]); (try simp only [sB, sC])
      refine wpAnyH_ready (rs := [14]) (by kernel_rfl) (by simp) ?_
      refine AllReadyH.cons (o := _) rfl (fun K hK => ?_) AllReadyH.nil
      (try simp only [gA, gB, gC])
      go_simp
      refine hK.out _ _ (by first | assumption | trivial | exact K1.out _ (hb_v2.alloc hb_v2.size _)) (fun hHeld14 => ?_)
      clear hK K
      (try simp only [Act.put]); (try simp only [sA]); (try simp only [sB, sC])
      refine wpAnyH_ready (rs := [15]) (by kernel_rfl) (by simp) ?_
      refine AllReadyH.cons (o := _) rfl (fun K hK => ?_) AllReadyH.nil
      have HOW : Hid (v2.ownsRow C 33 2 uf fn ((⟨G0.ins, G0.lats ++ Q.lats.map (mvL Q fl fg), G0.ands ++ (Q.ands.take (i)).map (mvA Q fl fg), G0.outs⟩ : GrD).ands.flatMap AndD.cells)) := by
       have := (HT5.out.rest hb_v2).a
       rw [← HUF.out, ← HFN.out] at this
       exact this
      have hm3 : C ≤ (v2.alloc (.cells #[.int .i64 (mvF Q fl fg x), .int .i64 (mvF Q fl fg y)] 33)).heap.size := by have := (HT5.out.rest hb_v2).size; simp; omega
      refine step_append_lies _ rfl (.tmp 55) (.tmp 65) 28 rfl C 33 il _ 2 16 Try.underlying28 HI.out HZ.out HSI.out HY.out rfl (by decide) uf fn _ rfl (HOW.out.alloc _) ⟨v2.heap.size, 0, none⟩ 1 1 [.int .i64 (mvF Q fl fg x), .int .i64 (mvF Q fl fg y)] rfl rfl (World.news_of_block (heap_new _ _)) (by simp [Value.oneCell']) (by decide) hm1 hm2 hm3 _ rfl ?_
      intro g cap w6 hown hgrow hat hlt6
      have hg6 := grown_trn (World.grownBy_alloc v2 _ _) hgrow
      have hc6 : w6.cell? ⟨gb, 2, none⟩ = some uf := (hg6.cell_far ⟨gb, 2, none⟩ hgv2 (fun e => HFAR.out e.symm)).trans gv2
      have hf6 : w6.frozen? ⟨gb, 2, none⟩ = false := (hg6.frozen_far ⟨gb, 2, none⟩ hgv2 (fun e => HFAR.out e.symm)).trans (frozen_of_row _ _ _ _ _ (HT5.out.rest hb_v2).box)
      have K3 := KG.out _ _ hb_v2 hg6
      refine hK.out _ _ (by first | assumption | exact K3) (fun hHeldp => ?_)
      clear hK K
      (try simp only [Act.put]); (try simp only [sA]); (try simp only [sB, sC])
      refine tk 16 ?_
      refine tk 17 ?_
      refine wpAnyH_ready (rs := [18]) (by kernel_rfl) (by simp) ?_
      refine AllReadyH.cons (o := _) rfl (fun K hK => ?_) AllReadyH.nil
      (try simp only [gA, gB, gC])
      go_simp
      refine hK.out _ _ (by first | assumption | trivial | exact K1.out _ (Below.refl _ _) | exact K1.out _ (Below.drew (Below.refl _ _)) | exact K1.out _ (by assumption) | exact KSS.out _ _ (by assumption)) (fun hHeld18 => ?_)
      clear hK K
      (try simp only [Act.put]); (try simp only [sA]); (try simp only [sB, sC])
      refine wpAnyH_done (by kernel_rfl) ?_ _
      refine NoPanic.normal ?_
      obtain ⟨t1, t2, t3⟩ := (HT5.out.rest hb_v2).pusha ⟨mvF Q fl fg x, mvF Q fl fg y⟩ (g := g) (cap := cap) (by rw [← HUF.out]; exact hg6) (by rw [← HFN.out]; exact hown) (by
       rw [← HUF.out]
       rcases hat with h | h
       ·exact .inl h
       ·refine .inr ?_
        simp at h
        omega)
      rw [← HFN.out] at t1 t2 t3
      have HB9 : Hid (Below C w (w6.setCell ⟨gb, 2, none⟩ (.slice (some ⟨g, 0, none⟩) (fn + 1) cap))) := (HBw5.out.trans (hb_v2.mono HT5.out.size)).trans t2
      have HP9 : Hid (∀ b, b ∈ [c5, c6, c7] → (w6.setCell ⟨gb, 2, none⟩ (.slice (some ⟨g, 0, none⟩) (fn + 1) cap)).heap[b]? = W.heap[b]?) := fun b hb => (t3 b hb).trans ((hb_v2.block b (HT5.out.ps.1 b hb).1).trans (HP5.out b hb))
      have HT9 := hidden t1
      clear t1 t2 t3
      generalize World.setCell w6 _ _ = w9 at HT9 HB9 HP9 ⊢
      have HT9' : Hid (∃ u', TkP C w9 gb ins u' (⟨G0.ins, G0.lats ++ Q.lats.map (mvL Q fl fg), G0.ands ++ (Q.ands.take (i + 1)).map (mvA Q fl fg), G0.outs⟩) [c5, c6, c7]) := by
       show ∃ u', TkP _ _ _ _ _ _ _
       rw [take_next _ i _ HDI.out, List.map_append, ← List.append_assoc]
       exact ⟨_, HT9.out⟩
      clear HT9 hown hgrow hat hlt6 hg6 hc6 hf6 K3 K1 KG KSS MV HOW hm3
      go_wp2
      go_roundw
      case measure => simp [intOf]; omega
      case rel => exact ⟨i + 1, by omega, by simp, HT9'.out, HP9.out, HB9.out⟩
     refine AllReadyH.cons (o := _) rfl (fun K hK => ?_) AllReadyH.nil
     (try simp only [gA, gB, gC])
     go_simp
     refine hK.out _ _ (by first | assumption | trivial | exact K1.out _ (hb_v2.alloc hb_v2.size _)) (fun hHeld14 => ?_)
     clear hK K
     (try simp only [Act.put]); (try simp only [sA]); (try simp only [sB, sC])
     refine wpAnyH_ready (rs := [4]) (by kernel_rfl) (by simp) ?_
     refine AllReadyH.cons (o := _) rfl (fun K hK => ?_) AllReadyH.nil
     (try simp only [gA, gB, gC])
     go_simp
     refine hK.out _ _ (by first | assumption | trivial | exact K1.out _ (Below.refl _ _) | exact K1.out _ (Below.drew (Below.refl _ _)) | exact K1.out _ (by assumption) | exact KSS.out _ _ (by assumption)) (fun hHeld4 => ?_)
     clear hK K
     (try simp only [Act.put]); (try simp only [sA]); (try simp only [sB, sC])
     refine wpAnyH_ready (rs := [15]) (by kernel_rfl) (by simp) ?_
     refine AllReadyH.cons (o := _) rfl (fun K hK => ?_) AllReadyH.nil
     have HOW : Hid (v2.ownsRow C 33 2 uf fn ((⟨G0.ins, G0.lats ++ Q.lats.map (mvL Q fl fg), G0.ands ++ (Q.ands.take (i)).map (mvA Q fl fg), G0.outs⟩ : GrD).ands.flatMap AndD.cells)) := by
      have := (HT5.out.rest hb_v2).a
      rw [← HUF.out, ← HFN.out] at this
      exact this
     have hm3 : C ≤ (v2.alloc (.cells #[.int .i64 (mvF Q fl fg x), .int .i64 (mvF Q fl fg y)] 33)).heap.size := by have := (HT5.out.rest hb_v2).size; simp; omega
     refine step_append_lies _ rfl (.tmp 55) (.tmp 65) 28 rfl C 33 il _ 2 16 Try.underlying28 HI.out HZ.out HSI.out HY.out rfl (by decide) uf fn _ rfl (HOW.out.alloc _) ⟨v2.heap.size, 0, none⟩ 1 1 [.int .i64 (mvF Q fl fg x), .int .i64 (mvF Q fl fg y)] rfl rfl (World.news_of_block (heap_new _ _)) (by simp [Value.oneCell']) (by decide) hm1 hm2 hm3 _ rfl ?_
     intro g cap w6 hown hgrow hat hlt6
     have hg6 := grown_trn (World.grownBy_alloc v2 _ _) hgrow
     have hc6 : w6.cell? ⟨gb, 2, none⟩ = some uf := (hg6.cell_far ⟨gb, 2, none⟩ hgv2 (fun e => HFAR.out e.symm)).trans gv2
     have hf6 : w6.frozen? ⟨gb, 2, none⟩ = false := (hg6.frozen_far ⟨gb, 2, none⟩ hgv2 (fun e => HFAR.out e.symm)).trans (frozen_of_row _ _ _ _ _ (HT5.out.rest hb_v2).box)
     have K3 := KG.out _ _ hb_v2 hg6
     refine hK.out _ _ (by first | assumption | exact K3) (fun hHeldp => ?_)
     clear hK K
     (try simp only [Act.put]); (try simp only [sA]); (try simp only [sB, sC])
     refine tk 16 ?_
     refine tk 17 ?_
     refine wpAnyH_ready (rs := [18]) (by kernel_rfl) (by simp) ?_
     refine AllReadyH.cons (o := _) rfl (fun K hK => ?_) AllReadyH.nil
     (try simp only [gA, gB, gC])
     go_simp
     refine hK.out _ _ (by first | assumption | trivial | exact K1.out _ (Below.refl _ _) | exact K1.out _ (Below.drew (Below.refl _ _)) | exact K1.out _ (by assumption) | exact KSS.out _ _ (by assumption)) (fun hHeld18 => ?_)
     clear hK K
     (try simp only [Act.put]); (try simp only [sA]); (try simp only [sB, sC])
     refine wpAnyH_done (by kernel_rfl) ?_ _
     refine NoPanic.normal ?_
     obtain ⟨t1, t2, t3⟩ := (HT5.out.rest hb_v2).pusha ⟨mvF Q fl fg x, mvF Q fl fg y⟩ (g := g) (cap := cap) (by rw [← HUF.out]; exact hg6) (by rw [← HFN.out]; exact hown) (by
      rw [← HUF.out]
      rcases hat with h | h
      ·exact .inl h
      ·refine .inr ?_
       simp at h
       omega)
     rw [← HFN.out] at t1 t2 t3
     have HB9 : Hid (Below C w (w6.setCell ⟨gb, 2, none⟩ (.slice (some ⟨g, 0, none⟩) (fn + 1) cap))) := (HBw5.out.trans (hb_v2.mono HT5.out.size)).trans t2
     have HP9 : Hid (∀ b, b ∈ [c5, c6, c7] → (w6.setCell ⟨gb, 2, none⟩ (.slice (some ⟨g, 0, none⟩) (fn + 1) cap)).heap[b]? = W.heap[b]?) := fun b hb => (t3 b hb).trans ((hb_v2.block b (HT5.out.ps.1 b hb).1).trans (HP5.out b hb))
     have HT9 := hidden t1
     clear t1 t2 t3
     generalize World.setCell w6 _ _ = w9 at HT9 HB9 HP9 ⊢
     have HT9' : Hid (∃ u', TkP C w9 gb ins u' (⟨G0.ins, G0.lats ++ Q.lats.map (mvL Q fl fg), G0.ands ++ (Q.ands.take (i + 1)).map (mvA Q fl fg), G0.outs⟩) [c5, c6, c7]) := by
      show ∃ u', TkP _ _ _ _ _ _ _
      rw [take_next _ i _ HDI.out, List.map_append, ← List.append_assoc]
      exact ⟨_, HT9.out⟩
     clear HT9 hown hgrow hat hlt6 hg6 hc6 hf6 K3 K1 KG KSS MV HOW hm3
     go_wp2
     go_roundw
     case measure => simp [intOf]; omega
     case rel => exact ⟨i + 1, by omega, by simp, HT9'.out, HP9.out, HB9.out⟩
    ·have hge : ¬ ((i : Int) < (qna : Int)) := by omega
     have HTE : Hid (∃ u', TkP C wr gb ins u' (⟨G0.ins, G0.lats ++ Q.lats.map (mvL Q fl fg), G0.ands ++ (Q.ands.take (qna)).map (mvA Q fl fg), G0.outs⟩) [c5, c6, c7]) := by rw [show qna = i by omega]; exact HTk.out
     have HPE := HPk
     have HBE := HBk
     clear HTk HPk HBk
     rw [show (Q.ands.take qna) = Q.ands by rw [HQa.out, List.take_length]] at HTE
     have HTo := HTE
     have HPo := HPE
     have HBo := HBE
     have e5 : wr.cell? ⟨c5, 0, none⟩ = some (.pointer (some ⟨pp, 0, none⟩)) := by rw [World.cell?_of_block (HPo.out c5 (by simp))]; exact HC5.out
     have e6 := (HX.out.to hppC HBo.out).c3
     rw [← HQo.out] at e6
     go_wp2_with fail
     clear e5 e6
     go_loopw [75] (fun i' w' => ∃ (i : Nat), i ≤ qno ∧ i' = .int .i64 i ∧ Hid (∃ u', TkP C w' gb ins u' (⟨G0.ins, G0.lats ++ Q.lats.map (mvL Q fl fg), G0.ands ++ Q.ands.map (mvA Q fl fg), G0.outs ++ (Q.outs.take (i)).map (mvF Q fl fg)⟩) [c5, c6, c7]) ∧ Hid (∀ b, b ∈ [c5, c6, c7] → w'.heap[b]? = W.heap[b]?) ∧ Hid (Below C w w')) (fun i' _ => qno - (intOf i').toNat)
     case atStart => exact ⟨0, Nat.zero_le _, rfl, by show ∃ u', TkP _ _ _ _ _ _ _; simpa using HTo.out, HPo.out, HBo.out⟩
     case round =>
      obtain ⟨i, hi, rfl, HTk, HPk, HBk⟩ := hrel
      by_cases hlt : i < qno
      ·obtain ⟨u, ht⟩ := HTk.out
       have HT := hidden ht
       clear ht HTk
       have hltI : (i : Int) < (qno : Int) := by omega
       obtain ⟨d, hd⟩ := getElem_lt (show i < Q.outs.length by have := HQo.out; omega)
       have HDI := hidden hd
       obtain ⟨b, o, ea, hlb, hc⟩ := (HGA.out.to HBk.out).o.el hd
       have c0 : wr.cell? ⟨b, o + i, none⟩ = some (.int .i64 d) := by have := hc 0 _ rfl; simpa using this
       have hdl := HOL.out d (List.mem_of_getElem? hd)
       have e3 : IntKind.i64.wrap ((i : Int) + 1) = (i : Int) + 1 := wrapI _ (by omega) (by omega)
       rw [ea]
       clear hd hc hlb ea
       obtain ⟨il, hi', hz', hs', hby'⟩ := info_int
       have HI := hidden hi'
       have HZ := hidden hz'
       have HSI := hidden hs'
       have HY := hidden hby'
       clear hi' hz' hs' hby'
       go_upto_region 15 with fail
       obtain ⟨w5, hw5⟩ : ∃ x, x = wr := ⟨_, rfl⟩
       have HB5 : Hid (Below wr.heap.size wr w5) := by rw [hw5]; exact Below.refl _ _
       rw [← hw5]
       clear hw5 c0
       have HT5 : Hid (TkP C w5 gb ins u (⟨G0.ins, G0.lats ++ Q.lats.map (mvL Q fl fg), G0.ands ++ Q.ands.map (mvA Q fl fg), G0.outs ++ (Q.outs.take (i)).map (mvF Q fl fg)⟩) [c5, c6, c7]) := HT.out.rest HB5.out
       have HBw5 : Hid (Below C w w5) := HBk.out.trans (HB5.out.mono HT.out.size)
       have HP5 : Hid (∀ b, b ∈ [c5, c6, c7] → w5.heap[b]? = W.heap[b]?) := fun b hb => (HB5.out.block b (HT.out.ps.1 b hb).1).trans (HPk.out b hb)
       obtain ⟨uf, HUF⟩ : ∃ x, Hid (x = u 3) := ⟨_, rfl⟩
       obtain ⟨fn, HFN⟩ : ∃ x : Nat, Hid (x = (⟨G0.ins, G0.lats ++ Q.lats.map (mvL Q fl fg), G0.ands ++ Q.ands.map (mvA Q fl fg), G0.outs ++ (Q.outs.take (i)).map (mvF Q fl fg)⟩ : GrD).outs.length) := ⟨_, rfl⟩
       have g5 : w5.cell? ⟨gb, 3, none⟩ = some uf := by rw [HUF.out]; exact HT5.out.fld 3 (by decide)
       have hgb5 : gb < w5.heap.size := HT5.out.lt
       have HFAR : Hid (uf.ownBlock ≠ some gb) := by rw [HUF.out]; exact HT5.out.nb 3
       have hfn : fn ≤ 400000 := by
        rw [HFN.out]
        simp only [List.length_append, List.length_map, List.length_take]
        have := hG0o
        omega
       have hm1 : fn + 1 ≤ maxLen := by simp only [maxLen]; omega
       have hm2 : (fn + 1) * 8 ≤ 140737488355328 := by omega
       have K1 : Hid (∀ w', Below w5.heap.size w5 w' → (fun _ => True) w') := fun w' hb => trivial
       have KG : Hid (∀ (v w' : World), Below w5.heap.size w5 v → v.grownBy w' uf.ownBlock → (fun _ => True) w') := fun v w' hb hg => by
        trivial
       have KSS : Hid (∀ (w' : World) (v : Value), (fun _ => True) w' → (fun _ => True) (w'.setCell ⟨gb, 3, none⟩ v)) := fun w' v hh => by
        trivial
       have MV : Hid (∀ (l : Int) (w' : World), Below w5.heap.size w5 w' → 0 ≤ l ∧ l ≤ 4000000 → Calls Try.prog 75 #[.int .i64 l, .pointer (some ⟨c5, 0, none⟩), .pointer (some ⟨c6, 0, none⟩), .pointer (some ⟨c7, 0, none⟩)] w' fun e w'' => e = .returned (.int .i64 (mvF Q fl fg l)) ∧ ∃ n, w'' = w'.drewN n) := fun l w' hb hl => by
        have h5 : ∀ b, b ∈ [c5, c6, c7] → w'.heap[b]? = W.heap[b]? := fun b hb' => (hb.block b (HT5.out.ps.1 b hb').1).trans (HP5.out b hb')
        refine moved_any w' c5 c6 c7 pp S Q fl fg l ?_ ?_ ?_ (HX.out.to hppC (HBw5.out.trans (hb.mono HT5.out.size))) HQB.out.1 HQB.out.2.1 (by have := HQB.out.2.2.1; simp only [big]; omega) hl hfl hfg
        ·rw [World.cell?_of_block (h5 c5 (by simp))]; exact HC5.out
        ·rw [World.cell?_of_block (h5 c6 (by simp))]; exact HC6.out
        ·rw [World.cell?_of_block (h5 c7 (by simp))]; exact HC7.out
       clear HPk HBk HB5
       refine wp_region_noPanic ?_
       refine wp_region_held_drew (S := (fun _ => True)) (by kernel_rfl) (by first | assumption | trivial | exact K1.out _ (Below.refl _ _) | exact K1.out _ (Below.drew (Below.refl _ _)) | exact K1.out _ (by assumption) | exact KSS.out _ _ (by assumption)) (fun hHeld => ?_)
       refine tk 0 ?_
       refine tk 1 ?_
       refine tk 2 ?_
       refine tk 3 ?_
       refine tk 5 ?_
       refine tk 6 ?_
       refine wpAnyH_ready (rs := [4, 7]) (by kernel_rfl) (by simp) ?_
       refine AllReadyH.cons (o := _) rfl (fun K hK => ?_) ?_
       ·(try simp only [gA, gB, gC])
        go_simp
        refine hK.out _ _ (by first | assumption | trivial | exact K1.out _ (Below.refl _ _) | exact K1.out _ (Below.drew (Below.refl _ _)) | exact K1.out _ (by assumption) | exact KSS.out _ _ (by assumption)) (fun hHeld4 => ?_)
        clear hK K
        (try simp only [Act.put]); (try simp only [sA]); (try simp only [sB, sC])
        refine wpAnyH_ready (rs := [7]) (by kernel_rfl) (by simp) ?_
        refine AllReadyH.cons (o := _) rfl (fun K hK => ?_) AllReadyH.nil
        (try simp only [gA, gB, gC])
        go_simp
        go_at_call 75
        refine (MV.out d _ (Below.drew (Below.refl w5.heap.size w5)) hdl).mono ?_
        rintro e v1 ⟨rfl, nd1, hv1⟩
        have hb_v1 : Below w5.heap.size w5 v1 := by rw [hv1]; exact Below.drewN (Below.drew (Below.refl w5.heap.size w5)) nd1
        clear hv1
        have gv1 : v1.cell? ⟨gb, 3, none⟩ = some uf := (hb_v1.cell (p := ⟨gb, 3, none⟩) hgb5).trans g5
        have hgv1 : gb < v1.heap.size := Nat.lt_of_lt_of_le hgb5 hb_v1.size
        go_wp2_with fail
        refine hK.out _ _ (by first | assumption | trivial | exact K1.out _ (Below.refl _ _) | exact K1.out _ (Below.drew (Below.refl _ _)) | exact K1.out _ (by assumption) | exact KSS.out _ _ (by assumption)) (fun hHeld7 => ?_)
        clear hK K
        (try simp only [Act.put]); (try simp only [sA]); (try simp only [sB, sC])
        refine wpAnyH_ready (rs := [8]) (by kernel_rfl) (by simp) ?_
        refine AllReadyH.cons (o := _) rfl (fun K hK => ?_) AllReadyH.nil
        (try simp only [gA, gB, gC])
        go_simp
        refine hK.out _ _ (by first | assumption | trivial | exact K1.out _ (hb_v1.alloc hb_v1.size _)) (fun hHeld8 => ?_)
        clear hK K
        (try simp only [Act.put]); (try simp only [sA]); (try simp only [sB, sC])
        refine wpAnyH_ready (rs := [9]) (by kernel_rfl) (by simp) ?_
        refine AllReadyH.cons (o := _) rfl (fun K hK => ?_) AllReadyH.nil
        have HOW : Hid (v1.ownsRow C 3 1 uf fn ((⟨G0.ins, G0.lats ++ Q.lats.map (mvL Q fl fg), G0.ands ++ Q.ands.map (mvA Q fl fg), G0.outs ++ (Q.outs.take (i)).map (mvF Q fl fg)⟩ : GrD).outs.map (Value.int .i64))) := by
         have := (HT5.out.rest hb_v1).o
         rw [← HUF.out, ← HFN.out] at this
         exact this
        have hm3 : C ≤ (v1.alloc (.cells #[.int .i64 (mvF Q fl fg d)] 3)).heap.size := by have := (HT5.out.rest hb_v1).size; simp; omega
        refine step_append_lies _ rfl (.tmp 83) (.tmp 87) 26 rfl C 3 il _ 1 8 Try.underlying26 HI.out HZ.out HSI.out HY.out rfl (by decide) uf fn _ rfl (HOW.out.alloc _) ⟨v1.heap.size, 0, none⟩ 1 1 [.int .i64 (mvF Q fl fg d)] rfl rfl (World.news_of_block (heap_new _ _)) (by simp [Value.oneCell']) (by decide) hm1 hm2 hm3 _ rfl ?_
        intro g cap w6 hown hgrow hat hlt6
        have hg6 := grown_trn (World.grownBy_alloc v1 _ _) hgrow
        have hc6 : w6.cell? ⟨gb, 3, none⟩ = some uf := (hg6.cell_far ⟨gb, 3, none⟩ hgv1 (fun e => HFAR.out e.symm)).trans gv1
        have hf6 : w6.frozen? ⟨gb, 3, none⟩ = false := (hg6.frozen_far ⟨gb, 3, none⟩ hgv1 (fun e => HFAR.out e.symm)).trans (frozen_of_row _ _ _ _ _ (HT5.out.rest hb_v1).box)
        have K3 := KG.out _ _ hb_v1 hg6
        refine hK.out _ _ (by first | assumption | exact K3) (fun hHeldp => ?_)
        clear hK K
        (try simp only [Act.put]); (try simp only [sA]); (try simp only [sB, sC])
        refine tk 10 ?_
        refine tk 11 ?_
        refine wpAnyH_ready (rs := [12]) (by kernel_rfl) (by simp) ?_
        refine AllReadyH.cons (o := _) rfl (fun K hK => ?_) AllReadyH.nil
        (try simp only [gA, gB, gC])
        go_simp
        refine hK.out _ _ (by first | assumption | trivial | exact K1.out _ (Below.refl _ _) | exact K1.out _ (Below.drew (Below.refl _ _)) | exact K1.out _ (by assumption) | exact KSS.out _ _ (by assumption)) (fun hHeld12 => ?_)
        clear hK K
        (try simp only [Act.put]); (try simp only [sA]); (try simp only [sB, sC])
        refine wpAnyH_done (by kernel_rfl) ?_ _
        refine NoPanic.normal ?_
        obtain ⟨t1, t2, t3⟩ := (HT5.out.rest hb_v1).pusho (mvF Q fl fg d) (g := g) (cap := cap) (by rw [← HUF.out]; exact hg6) (by rw [← HFN.out]; exact hown) (by
         rw [← HUF.out]
         rcases hat with h | h
         ·exact .inl h
         ·refine .inr ?_
          simp at h
          omega)
        rw [← HFN.out] at t1 t2 t3
        have HB9 : Hid (Below C w (w6.setCell ⟨gb, 3, none⟩ (.slice (some ⟨g, 0, none⟩) (fn + 1) cap))) := (HBw5.out.trans (hb_v1.mono HT5.out.size)).trans t2
        have HP9 : Hid (∀ b, b ∈ [c5, c6, c7] → (w6.setCell ⟨gb, 3, none⟩ (.slice (some ⟨g, 0, none⟩) (fn + 1) cap)).heap[b]? = W.heap[b]?) := fun b hb => (t3 b hb).trans ((hb_v1.block b (HT5.out.ps.1 b hb).1).trans (HP5.out b hb))
        have HT9 := hidden t1
        clear t1 t2 t3
        generalize World.setCell w6 _ _ = w9 at HT9 HB9 HP9 ⊢
        have HT9' : Hid (∃ u', TkP C w9 gb ins u' (⟨G0.ins, G0.lats ++ Q.lats.map (mvL Q fl fg), G0.ands ++ Q.ands.map (mvA Q fl fg), G0.outs ++ (Q.outs.take (i + 1)).map (mvF Q fl fg)⟩) [c5, c6, c7]) := by
         show ∃ u', TkP _ _ _ _ _ _ _
         rw [take_next _ i _ HDI.out, List.map_append, ← List.append_assoc]
         exact ⟨_, HT9.out⟩
        clear HT9 hown hgrow hat hlt6 hg6 hc6 hf6 K3 K1 KG KSS MV HOW hm3
        go_wp2
        go_roundw
        case measure => simp [intOf]; omega
        case rel => exact ⟨i + 1, by omega, by simp, HT9'.out, HP9.out, HB9.out⟩
       refine AllReadyH.cons (o := _) rfl (fun K hK => ?_) AllReadyH.nil
       (try simp only [gA, gB, gC])
       go_simp
       go_at_call 75
       refine (MV.out d _ (Below.drew (Below.refl w5.heap.size w5)) hdl).mono ?_
       rintro e v1 ⟨rfl, nd1, hv1⟩
       have hb_v1 : Below w5.heap.size w5 v1 := by rw [hv1]; exact Below.drewN (Below.drew (Below.refl w5.heap.size w5)) nd1
       clear hv1
       have gv1 : v1.cell? ⟨gb, 3, none⟩ = some uf := (hb_v1.cell (p := ⟨gb, 3, none⟩) hgb5).trans g5
       have hgv1 : gb < v1.heap.size := Nat.lt_of_lt_of_le hgb5 hb_v1.size
       go_wp2_with fail
       refine hK.out _ _ (by first | assumption | trivial | exact K1.out _ (Below.refl _ _) | exact K1.out _ (Below.drew (Below.refl _ _)) | exact K1.out _ (by assumption) | exact KSS.out _ _ (by assumption)) (fun hHeld7 => ?_)
       clear hK K
       (try simp only [Act.put]); (try simp only [sA]); (try simp only [sB, sC])
       refine wpAnyH_ready (rs := [4, 8]) (by kernel_rfl) (by simp) ?_
       refine AllReadyH.cons (o := _) rfl (fun K hK => ?_) ?_
       ·(try simp only [gA, gB, gC])
        go_simp
        refine hK.out _ _ (by first | assumption | trivial | exact K1.out _ (Below.refl _ _) | exact K1.out _ (Below.drew (Below.refl _ _)) | exact K1.out _ (by assumption) | exact KSS.out _ _ (by assumption)) (fun hHeld4 => ?_)
        clear hK K
        (try simp only [Act.put]); (try simp only [sA]); (try simp only [sB, sC])
        refine wpAnyH_ready (rs := [8]) (by kernel_rfl) (by simp) ?_
        refine AllReadyH.cons (o := _) rfl (fun K hK => ?_) AllReadyH.nil
        (try simp only [gA, gB, gC])
        go_simp
        refine hK.out _ _ (by first | assumption | trivial | exact K1.out _ (hb_v1.alloc hb_v1.size _)) (fun hHeld8 => ?_)
        clear hK K
        (try simp only [Act.put]); (try simp only [sA]); (try simp only [sB, sC])
        refine wpAnyH_ready (rs := [9]) (by kernel_rfl) (by simp) ?_
        refine AllReadyH.cons (o := _) rfl (fun K hK => ?_) AllReadyH.nil
        have HOW : Hid (v1.ownsRow C 3 1 uf fn ((⟨G0.ins, G0.lats ++ Q.lats.map (mvL Q fl fg), G0.ands ++ Q.ands.map (mvA Q fl fg), G0.outs ++ (Q.outs.take (i)).map (mvF Q fl fg)⟩ : GrD).outs.map (Value.int .i64))) := by
         have := (HT5.out.rest hb_v1).o
         rw [← HUF.out, ← HFN.out] at this
         exact this
        have hm3 : C ≤ (v1.alloc (.cells #[.int .i64 (mvF Q fl fg d)] 3)).heap.size := by have := (HT5.out.rest hb_v1).size; simp; omega
        refine step_append_lies _ rfl (.tmp 83) (.tmp 87) 26 rfl C 3 il _ 1 8 Try.underlying26 HI.out HZ.out HSI.out HY.out rfl (by decide) uf fn _ rfl (HOW.out.alloc _) ⟨v1.heap.size, 0, none⟩ 1 1 [.int .i64 (mvF Q fl fg d)] rfl rfl (World.news_of_block (heap_new _ _)) (by simp [Value.oneCell']) (by decide) hm1 hm2 hm3 _ rfl ?_
        intro g cap w6 hown hgrow hat hlt6
        have hg6 := grown_trn (World.grownBy_alloc v1 _ _) hgrow
        have hc6 : w6.cell? ⟨gb, 3, none⟩ = some uf := (hg6.cell_far ⟨gb, 3, none⟩ hgv1 (fun e => HFAR.out e.symm)).trans gv1
        have hf6 : w6.frozen? ⟨gb, 3, none⟩ = false := (hg6.frozen_far ⟨gb, 3, none⟩ hgv1 (fun e => HFAR.out e.symm)).trans (frozen_of_row _ _ _ _ _ (HT5.out.rest hb_v1).box)
        have K3 := KG.out _ _ hb_v1 hg6
        refine hK.out _ _ (by first | assumption | exact K3) (fun hHeldp => ?_)
        clear hK K
        (try simp only [Act.put]); (try simp only [sA]); (try simp only [sB, sC])
        refine tk 10 ?_
        refine tk 11 ?_
        refine wpAnyH_ready (rs := [12]) (by kernel_rfl) (by simp) ?_
        refine AllReadyH.cons (o := _) rfl (fun K hK => ?_) AllReadyH.nil
        (try simp only [gA, gB, gC])
        go_simp
        refine hK.out _ _ (by first | assumption | trivial | exact K1.out _ (Below.refl _ _) | exact K1.out _ (Below.drew (Below.refl _ _)) | exact K1.out _ (by assumption) | exact KSS.out _ _ (by assumption)) (fun hHeld12 => ?_)
        clear hK K
        (try simp only [Act.put]); (try simp only [sA]); (try simp only [sB, sC])
        refine wpAnyH_done (by kernel_rfl) ?_ _
        refine NoPanic.normal ?_
        obtain ⟨t1, t2, t3⟩ := (HT5.out.rest hb_v1).pusho (mvF Q fl fg d) (g := g) (cap := cap) (by rw [← HUF.out]; exact hg6) (by rw [← HFN.out]; exact hown) (by
         rw [← HUF.out]
         rcases hat with h | h
         ·exact .inl h
         ·refine .inr ?_
          simp at h
          omega)
        rw [← HFN.out] at t1 t2 t3
        have HB9 : Hid (Below C w (w6.setCell ⟨gb, 3, none⟩ (.slice (some ⟨g, 0, none⟩) (fn + 1) cap))) := (HBw5.out.trans (hb_v1.mono HT5.out.size)).trans t2
        have HP9 : Hid (∀ b, b ∈ [c5, c6, c7] → (w6.setCell ⟨gb, 3, none⟩ (.slice (some ⟨g, 0, none⟩) (fn + 1) cap)).heap[b]? = W.heap[b]?) := fun b hb => (t3 b hb).trans ((hb_v1.block b (HT5.out.ps.1 b hb).1).trans (HP5.out b hb))
        have HT9 := hidden t1
        clear t1 t2 t3
        generalize World.setCell w6 _ _ = w9 at HT9 HB9 HP9 ⊢
        have HT9' : Hid (∃ u', TkP C w9 gb ins u' (⟨G0.ins, G0.lats ++ Q.lats.map (mvL Q fl fg), G0.ands ++ Q.ands.map (mvA Q fl fg), G0.outs ++ (Q.outs.take (i + 1)).map (mvF Q fl fg)⟩) [c5, c6, c7]) := by
         show ∃ u', TkP _ _ _ _ _ _ _
         rw [take_next _ i _ HDI.out, List.map_append, ← List.append_assoc]
         exact ⟨_, HT9.out⟩
        clear HT9 hown hgrow hat hlt6 hg6 hc6 hf6 K3 K1 KG KSS MV HOW hm3
        go_wp2
        go_roundw
        case measure => simp [intOf]; omega
        case rel => exact ⟨i + 1, by omega, by simp, HT9'.out, HP9.out, HB9.out⟩
       refine AllReadyH.cons (o := _) rfl (fun K hK => ?_) AllReadyH.nil
       (try simp only [gA, gB, gC])
       go_simp
       refine hK.out _ _ (by first | assumption | trivial | exact K1.out _ (hb_v1.alloc hb_v1.size _)) (fun hHeld8 => ?_)
       clear hK K
       (try simp only [Act.put]); (try simp only [sA]); (try simp only [sB, sC])
       refine wpAnyH_ready (rs := [4]) (by kernel_rfl) (by simp) ?_
       refine AllReadyH.cons (o := _) rfl (fun K hK => ?_) AllReadyH.nil
       (try simp only [gA, gB, gC])
       go_simp
       refine hK.out _ _ (by first | assumption | trivial | exact K1.out _ (Below.refl _ _) | exact K1.out _ (Below.drew (Below.refl _ _)) | exact K1.out _ (by assumption) | exact KSS.out _ _ (by assumption)) (fun hHeld4 => ?_)
       clear hK K
       (try simp only [Act.put]); (try simp only [sA]); (try simp only [sB, sC])
       refine wpAnyH_ready (rs := [9]) (by kernel_rfl) (by simp) ?_
       refine AllReadyH.cons (o := _) rfl (fun K hK => ?_) AllReadyH.nil
       have HOW : Hid (v1.ownsRow C 3 1 uf fn ((⟨G0.ins, G0.lats ++ Q.lats.map (mvL Q fl fg), G0.ands ++ Q.ands.map (mvA Q fl fg), G0.outs ++ (Q.outs.take (i)).map (mvF Q fl fg)⟩ : GrD).outs.map (Value.int .i64))) := by
        have := (HT5.out.rest hb_v1).o
        rw [← HUF.out, ← HFN.out] at this
        exact this
       have hm3 : C ≤ (v1.alloc (.cells #[.int .i64 (mvF Q fl fg d)] 3)).heap.size := by have := (HT5.out.rest hb_v1).size; simp; omega
       refine step_append_lies _ rfl (.tmp 83) (.tmp 87) 26 rfl C 3 il _ 1 8 Try.underlying26 HI.out HZ.out HSI.out HY.out rfl (by decide) uf fn _ rfl (HOW.out.alloc _) ⟨v1.heap.size, 0, none⟩ 1 1 [.int .i64 (mvF Q fl fg d)] rfl rfl (World.news_of_block (heap_new _ _)) (by simp [Value.oneCell']) (by decide) hm1 hm2 hm3 _ rfl ?_
       intro g cap w6 hown hgrow hat hlt6
       have hg6 := grown_trn (World.grownBy_alloc v1 _ _) hgrow
       have hc6 : w6.cell? ⟨gb, 3, none⟩ = some uf := (hg6.cell_far ⟨gb, 3, none⟩ hgv1 (fun e => HFAR.out e.symm)).trans gv1
       have hf6 : w6.frozen? ⟨gb, 3, none⟩ = false := (hg6.frozen_far ⟨gb, 3, none⟩ hgv1 (fun e => HFAR.out e.symm)).trans (frozen_of_row _ _ _ _ _ (HT5.out.rest hb_v1).box)
       have K3 := KG.out _ _ hb_v1 hg6
       refine hK.out _ _ (by first | assumption | exact K3) (fun hHeldp => ?_)
       clear hK K
       (try simp only [Act.put]); (try simp only [sA]); (try simp only [sB, sC])
       refine tk 10 ?_
       refine tk 11 ?_
       refine wpAnyH_ready (rs := [12]) (by kernel_rfl) (by simp) ?_
       refine AllReadyH.cons (o := _) rfl (fun K hK => ?_) AllReadyH.nil
       (try simp only [gA, gB, gC])
       go_simp
       refine hK.out _ _ (by first | assumption | trivial | exact K1.out _ (Below.refl _ _) | exact K1.out _ (Below.drew (Below.refl _ _)) | exact K1.out _ (by assumption) | exact KSS.out _ _ (by assumption)) (fun hHeld12 => ?_)
       clear hK K
       (try simp only [Act.put]); (try simp only [sA]); (try simp only [sB, sC])
       refine wpAnyH_done (by kernel_rfl) ?_ _
       refine NoPanic.normal ?_
       obtain ⟨t1, t2, t3⟩ := (HT5.out.rest hb_v1).pusho (mvF Q fl fg d) (g := g) (cap := cap) (by rw [← HUF.out]; exact hg6) (by rw [← HFN.out]; exact hown) (by
        rw [← HUF.out]
        rcases hat with h | h
        ·exact .inl h
        ·refine .inr ?_
         simp at h
         omega)
       rw [← HFN.out] at t1 t2 t3
       have HB9 : Hid (Below C w (w6.setCell ⟨gb, 3, none⟩ (.slice (some ⟨g, 0, none⟩) (fn + 1) cap))) := (HBw5.out.trans (hb_v1.mono HT5.out.size)).trans t2
       have HP9 : Hid (∀ b, b ∈ [c5, c6, c7] → (w6.setCell ⟨gb, 3, none⟩ (.slice (some ⟨g, 0, none⟩) (fn + 1) cap)).heap[b]? = W.heap[b]?) := fun b hb => (t3 b hb).trans ((hb_v1.block b (HT5.out.ps.1 b hb).1).trans (HP5.out b hb))
       have HT9 := hidden t1
       clear t1 t2 t3
       generalize World.setCell w6 _ _ = w9 at HT9 HB9 HP9 ⊢
       have HT9' : Hid (∃ u', TkP C w9 gb ins u' (⟨G0.ins, G0.lats ++ Q.lats.map (mvL Q fl fg), G0.ands ++ Q.ands.map (mvA Q fl fg), G0.outs ++ (Q.outs.take (i + 1)).map (mvF Q fl fg)⟩) [c5, c6, c7]) := by
        show ∃ u', TkP _ _ _ _ _ _ _
        rw [take_next _ i _ HDI.out, List.map_append, ← List.append_assoc]
        exact ⟨_, HT9.out⟩
       clear HT9 hown hgrow hat hlt6 hg6 hc6 hf6 K3 K1 KG KSS MV HOW hm3
       go_wp2
       go_roundw
       case measure => simp [intOf]; omega
       case rel => exact ⟨i + 1, by omega, by simp, HT9'.out, HP9.out, HB9.out⟩
      ·have hge : ¬ ((i : Int) < (qno : Int)) := by omega
       have HTE : Hid (∃ u', TkP C wr gb ins u' (⟨G0.ins, G0.lats ++ Q.lats.map (mvL Q fl fg), G0.ands ++ Q.ands.map (mvA Q fl fg), G0.outs ++ (Q.outs.take (qno)).map (mvF Q fl fg)⟩) [c5, c6, c7]) := by rw [show qno = i by omega]; exact HTk.out
       have HPE := HPk
       have HBE := HBk
       clear HTk HPk HBk
       have HXX : Hid (TakeP C w gb ins (takeG G0 Q fl fg) wr) := by
        obtain ⟨u', ht⟩ := HTE.out
        refine ⟨u', ?_, HBE.out⟩
        have := ht.drop (Qs := []) (fun b hb => by cases hb)
        rw [HQo.out, List.take_length] at this
        exact this
       go_wp2
       go_end0
       exact ⟨rfl, HXX.out⟩
end Go.Proofs.Ytefjicdhccfieaa
