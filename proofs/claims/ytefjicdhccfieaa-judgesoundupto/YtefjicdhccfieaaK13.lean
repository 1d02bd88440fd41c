import Derived.Test.YtefjicdhccfieaaK01
import Derived.Test.YtefjicdhccfieaaK12
import Derived.Test.YtefjicdhccfieaaK09
set_option maxRecDepth 100000
set_option maxHeartbeats 16000000
namespace Go.Proofs.Ytefjicdhccfieaa
open Go.RowKit
def unlikeF (sz k bf : Int) (prs : List AndD) (i : Nat) : List (List Int) := match prs[i]? with
 | some d => [[-(bf + 1 + i), numF sz k d.x, numF sz k d.y], [-(bf + 1 + i), -(numF sz k d.x), -(numF sz k d.y)]]
 | none => []
theorem unlikeF_len (sz k bf : Int) (prs : List AndD) (i : Nat) : (unlikeF sz k bf prs i).length ≤ 2 := by unfold unlikeF; split <;> simp
def someF (bf : Int) (n : Nat) : List Int := (List.range n).map fun (j : Nat) => bf + 1 + (j : Int)
def FmP (C : Nat) (w : World) (v : Int) (F : List (List Int)) (e : Ending) (w' : World) : Prop := ∃ (a : Option Addr) (c : Nat) (cls : List CL), e = .returned (.agg #[.int .i64 v, .slice a cls.length c]) ∧ cls.map CL.l = F ∧ RowAt w'.heap.size w' a 1 (cls.map CL.cells) ∧ (∀ t, t ∈ cls → RowAt w'.heap.size w' t.a 1 (t.l.map intC)) ∧ ((∀ x, a = some x → C ≤ x.block) ∧ ∀ t, t ∈ cls → ∀ x, t.a = some x → C ≤ x.block) ∧ Below C w w'
theorem flat_cells (cls : List CL) : (cls.map CL.cells).flatten = cls.map (fun t => Value.slice t.a t.l.length t.c) := by
 induction cls with
 | nil => rfl
 | cons a r ih => rw [List.map_cons, List.flatten_cons, ih]; rfl
theorem WFP.told {C : Nat} {w : World} {wb gp : Nat} {sz : Int} {F : List (List Int)} {Ps : List Nat} (h : WFP C w wb gp sz F Ps) {b : Nat} (hb : b ∈ Ps) : ∃ (a : Option Addr) (c : Nat) (cls : List CL), cls.map CL.l = F ∧ w.cell? ⟨wb, 2, none⟩ = some (.slice a cls.length c) ∧ ((∀ x, a = some x → C ≤ x.block) ∧ ∀ t, t ∈ cls → ∀ x, t.a = some x → C ≤ x.block) ∧ ∀ (w' : World), w.heap.size ≤ w'.heap.size → (∀ b' j, b' ≠ b → b' < w.heap.size → w'.cell? ⟨b', j, none⟩ = w.cell? ⟨b', j, none⟩) → RowAt w'.heap.size w' a 1 (cls.map CL.cells) ∧ ∀ t, t ∈ cls → RowAt w'.heap.size w' t.a 1 (t.l.map intC) := by
 obtain ⟨u, cls, k1, k2, k3⟩ := h
 obtain ⟨q1, q2, q3, q4⟩ := k3 b hb
 have hown := k1.own
 rw [← flat_cells] at hown
 obtain ⟨a, c, he, hrow⟩ := own_row hown (fun l hl => by obtain ⟨t, _, rfl⟩ := List.mem_map.1 hl; rfl) (by decide)
 subst he
 refine ⟨a, c, cls, k2, (cell_of_row _ _ 2 _ _ (0, 0) k1.box).trans rfl, ⟨fun x hx => (k1.own.lt _ (by rw [hx]; rfl)).1, fun t ht x hx => (k1.far t ht x hx).1⟩, fun w' hs hk => ⟨?_, fun t ht => ?_⟩⟩
 ·refine row_keep hrow hs (fun x hx j => ?_)
  have : (Value.slice a cls.length c).ownBlock = some x.block := by rw [hx]; rfl
  exact hk x.block j (fun e => q3 (by rw [this, e])) (k1.own.lt _ this).2
 ·refine row_keep (k1.each t ht) hs (fun x hx j => ?_)
  exact hk x.block j (q4 t ht x hx) (k1.far t ht x hx).2.1
theorem say_own (C : Nat) (w : World) (wb gp : Nat) (sz : Int) (F : List (List Int)) (Ps Qs : List Nat) (h : WFP C w wb gp sz F Ps) (l : List Int) (sb n cc : Nat) (hl : n = l.length) (hsb : sb ∈ Ps) (hsC : C ≤ sb) (hq : ∀ b, b ∈ Qs → b ∈ Ps ∧ b ≠ sb) (hrow : RowAt w.heap.size w (some ⟨sb, 0, none⟩) 1 (l.map intC)) (hn : F.length ≤ 16777216) :
  Calls Try.prog 76 #[.pointer (some ⟨wb, 0, none⟩), .slice (some ⟨sb, 0, none⟩) n cc] w fun e w' => e = .returned (.tuple #[]) ∧ WFP C w' wb gp sz (F ++ [l]) Qs ∧ Below C w w' ∧ ∀ b, b ∈ Qs → w'.heap[b]? = w.heap[b]? := by
 subst hl
 obtain ⟨u, cls, k1, rfl, k3⟩ := h
 refine (say_any C w wb gp sz u cls k1 ⟨some ⟨sb, 0, none⟩, cc, l⟩ hrow (fun x hx => ?_) (by simpa using hn)).mono ?_
 ·cases hx
  exact ⟨hsC, (k3 sb hsb).1, (k3 sb hsb).2.1, (k3 sb hsb).2.2.1⟩
 ·rintro e w' ⟨rfl, ⟨u', h2, h2u⟩, h3, h4⟩
  refine ⟨rfl, ⟨u', _, h2, by simp, fun b hb' => ?_⟩, h3, fun b hb' => ?_⟩
  ·obtain ⟨q1, q2, q3, q4⟩ := k3 b (hq b hb').1
   refine ⟨Nat.lt_of_lt_of_le q1 h3.size, q2, h2u b q1 q3, fun t ht x hx => ?_⟩
   rcases List.mem_append.1 ht with ht | ht
   ·exact q4 t ht x hx
   ·rw [List.mem_singleton.1 ht] at hx
    cases hx
    exact fun e => (hq b hb').2 e.symm
  ·obtain ⟨q1, q2, q3, q4⟩ := k3 b (hq b hb').1
   exact h4 b q1 q2 q3
theorem some_next (bf : Int) (pn i : Nat) (hi : i < pn) : ((List.range i).map (fun (j : Nat) => Value.int .i64 (bf + 1 + (j : Int))) ++ List.replicate (pn - i) (Value.int .i64 0)).toArray.setIfInBounds i (.int .i64 (bf + 1 + (i : Int))) = ((List.range (i + 1)).map (fun (j : Nat) => Value.int .i64 (bf + 1 + (j : Int))) ++ List.replicate (pn - (i + 1)) (Value.int .i64 0)).toArray := by
 obtain ⟨q, hq⟩ : ∃ q, pn - i = q + 1 := ⟨pn - i - 1, by omega⟩
 rw [show pn - (i + 1) = q by omega, hq, List.replicate_succ, List.range_succ, List.map_append, sA]
 rw [List.set_append_right _ _ (by simp)]
 simp
theorem some_cell (bf : Int) (pn i : Nat) (hi : i < pn) : ∃ v, ((List.range i).map (fun (j : Nat) => Value.int .i64 (bf + 1 + (j : Int))) ++ List.replicate (pn - i) (Value.int .i64 0)).toArray[i]? = some v := by
 have : i < ((List.range i).map (fun (j : Nat) => Value.int .i64 (bf + 1 + (j : Int))) ++ List.replicate (pn - i) (Value.int .i64 0)).toArray.size := by simp; omega
 exact ⟨_, Array.getElem?_eq_getElem this⟩
theorem unlike_any (C : Nat) (w : World) (wb gp : Nat) (S : GrS) (G : GrD) (F : List (List Int)) (Ps : List Nat) (hW : WFP C w wb gp G.vars F Ps) (hJ : JG C w gp S G) (pa : Option Addr) (pc : Nat) (prs : List AndD) (R : ∀ w', w.heap.size ≤ w'.heap.size → Below C w w' → (∀ b, b ∈ Ps → w'.heap[b]? = w.heap[b]?) → RowAt w'.heap.size w' pa 2 (prs.map AndD.cells)) (hpl : ∀ d, d ∈ prs → (0 ≤ d.x ∧ d.x ≤ 4000000) ∧ (0 ≤ d.y ∧ d.y ≤ 4000000)) (k : Int) (hk : k = 0 ∨ k = 1) (m : Int) (hm : m = 1 ∨ m = 2) (hn : F.length + 2 * prs.length + 1 ≤ 16777216) :
  Calls Try.prog 65 #[.pointer (some ⟨wb, 0, none⟩), .slice pa prs.length pc, .int .i64 (k), .int .i64 (m)] w fun e w' => FmP C w (m * G.vars + prs.length) (F ++ (List.range prs.length).flatMap (unlikeF G.vars k (m * G.vars) prs) ++ [someF (m * G.vars) prs.length]) e w' := by
 have HJ := hidden hJ
 have HSZ := hidden hJ.sz
 have HR := hidden R
 have HPL := hidden hpl
 have HK := hidden hk
 obtain ⟨pn, HPN⟩ : ∃ n, Hid (n = prs.length) := ⟨_, rfl⟩
 obtain ⟨fl, HFL⟩ : ∃ n, Hid (n = F.length) := ⟨_, rfl⟩
 obtain ⟨bf, HBF⟩ : ∃ x, Hid (x = m * G.vars) := ⟨_, rfl⟩
 have hbf : 0 ≤ bf ∧ bf ≤ 2000000 := by
  rw [HBF.out]
  have := HSZ.out
  rcases hm with rfl | rfl <;> omega
 have e0 : IntKind.i64.wrap (m * G.vars) = bf := by rw [← HBF.out]; exact wrapI _ (by omega) (by omega)
 rw [← HPN.out, ← HFL.out] at hn
 rw [← HPN.out, ← HBF.out]
 have HW := hidden hW
 have hC := hW.base
 obtain ⟨ib, hib, hzb, hsb, hbb⟩ := info_int
 have HI := hidden hib
 have HZ := hidden hzb
 have HS := hidden hsb
 have hmkb : ib.bytes * pn ≤ 281474976710656 := by rw [hbb]; omega
 have hmx : pn ≤ maxLen := by simp only [maxLen]; omega
 clear hib hzb hsb hbb hW hJ R hpl hk hm
 go_enter Try.func65, Try.ntmps65
 go_upto_region 1 with fail
 generalize hW1 : World.alloc w _ = w1
 obtain ⟨rb, hrb⟩ : ∃ x, x = w.heap.size := ⟨_, rfl⟩
 have HB1 : Hid (Below w.heap.size w w1) := by rw [← hW1]; exact (Below.refl _ _).alloc (Nat.le_refl _) _
 have HR1 : Hid (w1.heap[rb]? = some (.cells #[.int .i64 0, .slice none 0 0] 24 (0, 0))) := by rw [← hW1, hrb]; exact heap_new _ _
 have hrl : rb < w1.heap.size := by rw [← hW1, hrb]; simp
 have HF1 := hidden (HW.out.more HB1.out rb (by omega) hrl)
 rw [← hrb]
 have p1 := HF1.out.wf.c1
 have hwr : w.heap.size ≤ rb := by omega
 clear hW1 hrb
 have tok : True := trivial
 go_upto_region 3 with (have _t := tok; at_make; (refine wpList_make_full _ rfl (.tmp 23) (.tmp 23) 26 rfl w1.heap.size 3 ib _ 1 Try.underlying26 HI.out HZ.out HS.out .i64 .i64 (pn : Int) (pn : Int) pn rfl rfl rfl rfl hmkb hmx (Nat.le_refl _) ?_; intro w3 hown3 hgrow3; clear tok))
 obtain ⟨sb, hsb⟩ : ∃ x, x = w1.heap.size := ⟨_, rfl⟩
 have HB3 : Hid (Below w1.heap.size w1 w3) := none_below hgrow3
 have HS3 : Hid (w3.heap[sb]? = some (.cells ((List.range 0).map (fun (j : Nat) => Value.int .i64 (bf + 1 + (j : Int))) ++ List.replicate (pn - 0) (Value.int .i64 0)).toArray 3 (0, 0))) := by
  have := row_of_own hown3
  rw [made_int] at this
  rw [hsb]
  show w3.heap[w1.heap.size]? = _
  simpa using this
 have hsl : sb < w3.heap.size := by
  rcases Nat.lt_or_ge sb w3.heap.size with h' | h'
  ·exact h'
  ·have := HS3.out; rw [Array.getElem?_eq_none h'] at this; cases this
 have HF3 := hidden (HF1.out.more HB3.out sb (by omega) hsl)
 have HR3 : Hid (w3.heap[rb]? = some (.cells #[.int .i64 0, .slice none 0 0] 24 (0, 0))) := (HB3.out.block rb hrl).trans HR1.out
 have HBw3 : Hid (Below C w w3) := (HB1.out.mono hC).trans (HB3.out.mono (Nat.le_trans hC HB1.out.size))
 have HP3 : Hid (∀ b, b ∈ Ps → w3.heap[b]? = w.heap[b]?) := fun b hb => by
  obtain ⟨u, cls, k1, k2, k3⟩ := HW.out
  have := (k3 b hb).1
  rw [HB3.out.block b (Nat.lt_of_lt_of_le this HB1.out.size)]
  exact HB1.out.block b this
 have hrs : rb < sb := by omega
 have hsr : sb ≠ rb := by omega
 rw [← hsb]
 clear hown3 hgrow3 HF1 HR1 p1 hsb
 go_wp2_with fail
 go_loopw [27] (fun i' w' => ∃ (i : Nat), i ≤ pn ∧ i' = .int .i64 i ∧ Hid (WFP C w' wb gp G.vars (F ++ (List.range i).flatMap (unlikeF G.vars k bf prs)) (sb :: rb :: Ps)) ∧ Hid (w'.heap[sb]? = some (.cells ((List.range i).map (fun (j : Nat) => Value.int .i64 (bf + 1 + (j : Int))) ++ List.replicate (pn - i) (Value.int .i64 0)).toArray 3 (0, 0))) ∧ Hid (w'.heap[rb]? = some (.cells #[.int .i64 0, .slice none 0 0] 24 (0, 0))) ∧ Hid (∀ b, b ∈ Ps → w'.heap[b]? = w.heap[b]?) ∧ Hid (Below C w w')) (fun i' _ => pn - (intOf i').toNat)
 case atStart => exact ⟨0, Nat.zero_le _, rfl, by show WFP _ _ _ _ _ _ _; simpa using HF3.out, HS3.out, HR3.out, HP3.out, HBw3.out⟩
 case round =>
  obtain ⟨i, hi, rfl, HFk, HSk, HRk, HPk, HBk⟩ := hrel
  by_cases hlt : i < pn
  ·have hltI : (i : Int) < (pn : Int) := by omega
   obtain ⟨d, hd⟩ := getElem_lt (show i < prs.length by have := HPN.out; omega)
   obtain ⟨b, o, ea, hlb, hc⟩ := (HR.out wr HBk.out.size HBk.out HPk.out).el hd
   have c0 : wr.cell? ⟨b, o + i * 2, none⟩ = some (.int .i64 d.x) := hc 0 _ rfl
   have c1 : wr.cell? ⟨b, o + i * 2 + 1, none⟩ = some (.int .i64 d.y) := hc 1 _ rfl
   have hdl := HPL.out d (List.mem_of_getElem? hd)
   have HGF : Hid (unlikeF G.vars k bf prs i = [[-(bf + 1 + i), numF G.vars k d.x, numF G.vars k d.y], [-(bf + 1 + i), -(numF G.vars k d.x), -(numF G.vars k d.y)]]) := by show _ = _; unfold unlikeF; rw [hd]
   obtain ⟨x, y⟩ := d
   dsimp only at c0 c1 HGF hdl
   obtain ⟨X, HX⟩ : ∃ zz, Hid (zz = numF G.vars k x) := ⟨_, rfl⟩
   have hXb : -4000000 ≤ X ∧ X ≤ 4000000 := by rw [HX.out]; exact numF_le HSZ.out HK.out hdl.1
   have NX : Hid (∀ w', w'.cell? ⟨wb, 1, none⟩ = some (.int .i64 G.vars) → Calls Try.prog 77 #[.pointer (some ⟨wb, 0, none⟩), .int .i64 (x), .int .i64 (k)] w' fun e w'' => e = .returned (.int .i64 X) ∧ w'' = w') := fun w' hc => by rw [HX.out]; exact number_any w' wb G.vars k x hc HSZ.out HK.out hdl.1
   have enX : IntKind.i64.wrap (-X) = -X := wrapI _ (by omega) (by omega)
   obtain ⟨Y, HY⟩ : ∃ zz, Hid (zz = numF G.vars k y) := ⟨_, rfl⟩
   have hYb : -4000000 ≤ Y ∧ Y ≤ 4000000 := by rw [HY.out]; exact numF_le HSZ.out HK.out hdl.2
   have NY : Hid (∀ w', w'.cell? ⟨wb, 1, none⟩ = some (.int .i64 G.vars) → Calls Try.prog 77 #[.pointer (some ⟨wb, 0, none⟩), .int .i64 (y), .int .i64 (k)] w' fun e w'' => e = .returned (.int .i64 Y) ∧ w'' = w') := fun w' hc => by rw [HY.out]; exact number_any w' wb G.vars k y hc HSZ.out HK.out hdl.2
   have enY : IntKind.i64.wrap (-Y) = -Y := wrapI _ (by omega) (by omega)
   rw [← HX.out, ← HY.out] at HGF
   obtain ⟨D, HD⟩ : ∃ zz, Hid (zz = bf + 1 + (i : Int)) := ⟨_, rfl⟩
   rw [← HD.out] at HGF
   have hDb : 0 ≤ D ∧ D ≤ 20000000 := by rw [HD.out]; omega
   have e1 : IntKind.i64.wrap (bf + 1) = bf + 1 := wrapI _ (by omega) (by omega)
   have e2 : IntKind.i64.wrap (bf + 1 + (i : Int)) = D := by rw [← HD.out]; exact wrapI _ (by omega) (by omega)
   have e4 : IntKind.i64.wrap (-D) = -D := wrapI _ (by omega) (by omega)
   have HLEN : Hid ((F ++ (List.range i).flatMap (unlikeF G.vars k bf prs)).length ≤ fl + 2 * i) := by
    have := flat_len (unlikeF G.vars k bf prs) 2 (unlikeF_len _ _ _ _) i
    have := HFL.out
    simp only [List.length_append]
    show _ ≤ _
    omega
   have e3 : IntKind.i64.wrap ((i : Int) + 1) = (i : Int) + 1 := wrapI _ (by omega) (by omega)
   rw [ea]
   clear hd hc hlb ea hdl
   go_upto_region 6 with fail
   generalize hW5 : World.alloc wr _ = w5
   have HB5 : Hid (Below wr.heap.size wr w5) := by rw [← hW5]; exact (Below.refl _ _).alloc (Nat.le_refl _) _
   have z0 : w5.cell? ⟨wr.heap.size, 0, none⟩ = some (.int .i64 x) := by rw [← hW5]; exact cell_of_row _ _ 0 _ _ (0, 0) (heap_new _ _)
   have z1 : w5.cell? ⟨wr.heap.size, 1, none⟩ = some (.int .i64 y) := by rw [← hW5]; exact cell_of_row _ _ 1 _ _ (0, 0) (heap_new _ _)
   have hzb : wr.heap.size < w5.heap.size := by rw [← hW5]; simp
   have HCr : Hid (C ≤ wr.heap.size) := HFk.out.base
   obtain ⟨zb, HZB⟩ : ∃ z, Hid (z = wr.heap.size) := ⟨_, rfl⟩
   rw [← HZB.out] at z0 z1 hzb ⊢
   clear hW5 c0 c1
   have p1 : Hid (∀ w', Below w5.heap.size w5 w' → w'.cell? ⟨wb, 1, none⟩ = some (.int .i64 G.vars)) := fun w' hb => ((HFk.out.rest HB5.out).rest hb).wf.c1
   have K1 : Hid (∀ w', Below w5.heap.size w5 w' → (fun w' => w'.cell? ⟨zb, 0, none⟩ = some (.int .i64 x) ∧ w'.cell? ⟨zb, 1, none⟩ = some (.int .i64 y)) w') := fun w' hb => ⟨(hb.cell (p := ⟨zb, 0, none⟩) hzb).trans z0, (hb.cell (p := ⟨zb, 1, none⟩) hzb).trans z1⟩
   clear z0 z1
   refine wp_region_noPanic ?_
   refine wp_region_held_drew (S := (fun w' => w'.cell? ⟨zb, 0, none⟩ = some (.int .i64 x) ∧ w'.cell? ⟨zb, 1, none⟩ = some (.int .i64 y))) (by kernel_rfl) (by first | assumption | exact K1.out _ (Below.refl _ _) | exact K1.out _ (Below.drew (Below.refl _ _)) | exact K1.out _ (by assumption)) (fun hHeld => ?_)
   refine tk 0 ?_
   refine tk 1 ?_
   refine tk 2 ?_
   refine tk 3 ?_
   refine tk 4 ?_
   refine tk 5 ?_
   refine tk 6 ?_
   refine tk 7 ?_
   refine tk 9 ?_
   refine tk 10 ?_
   refine tk 11 ?_
   refine tk 12 ?_
   refine wpAnyH_ready (rs := [8]) (by kernel_rfl) (by simp) ?_
   refine AllReadyH.cons (o := _) rfl (fun K hK => ?_) AllReadyH.nil
   (try simp only [gA, gB, gC])
   go_simp
   go_at_call 77
   refine (NX.out _ (p1.out _ (Below.drew (Below.refl w5.heap.size w5)))).mono ?_
   rintro e v9 ⟨rfl, hv9⟩
   rw [hv9]
   clear hv9 v9
   go_wp2_with fail
   refine hK.out _ _ (by first | assumption | exact K1.out _ (Below.refl _ _) | exact K1.out _ (Below.drew (Below.refl _ _)) | exact K1.out _ (by assumption)) (fun hHeld1 => ?_)
   clear hK K
   try simp only [Act.put, sA, sB, sC]
   refine wpAnyH_ready (rs := [13]) (by kernel_rfl) (by simp) ?_
   refine AllReadyH.cons (o := _) rfl (fun K hK => ?_) AllReadyH.nil
   (try simp only [gA, gB, gC])
   go_simp
   go_at_call 77
   refine (NY.out _ (p1.out _ (Below.drew (Below.refl w5.heap.size w5)))).mono ?_
   rintro e v9 ⟨rfl, hv9⟩
   rw [hv9]
   clear hv9 v9
   go_wp2_with fail
   refine hK.out _ _ (by first | assumption | exact K1.out _ (Below.refl _ _) | exact K1.out _ (Below.drew (Below.refl _ _)) | exact K1.out _ (by assumption)) (fun hHeld2 => ?_)
   clear hK K
   try simp only [Act.put, sA, sB, sC]
   refine tk 14 ?_
   refine tk 15 ?_
   refine tk 16 ?_
   refine wpAnyH_done (by kernel_rfl) ?_ _
   refine NoPanic.normal ?_
   try clear hHeld
   try clear hHeld1
   try clear hHeld2
   have HBD : Hid (Below wr.heap.size wr w5.drew) := HB5.out.trans (Below.drew (Below.refl _ _))
   generalize w5.drew = v5 at HBD ⊢
   have HFv := hidden (HFk.out.rest HBD.out)
   have HBv : Hid (Below C w v5) := HBk.out.trans (HBD.out.mono HCr.out)
   have HSv : Hid (v5.heap[sb]? = some (.cells ((List.range i).map (fun (j : Nat) => Value.int .i64 (bf + 1 + (j : Int))) ++ List.replicate (pn - i) (Value.int .i64 0)).toArray 3 (0, 0))) := (HBD.out.block sb (by obtain ⟨u, cls, k1, k2, k3⟩ := HFk.out; exact (k3 sb (by simp)).1)).trans HSk.out
   have HRv : Hid (v5.heap[rb]? = some (.cells #[.int .i64 0, .slice none 0 0] 24 (0, 0))) := (HBD.out.block rb (by obtain ⟨u, cls, k1, k2, k3⟩ := HFk.out; exact (k3 rb (by simp)).1)).trans HRk.out
   have HPv : Hid (∀ b, b ∈ Ps → v5.heap[b]? = w.heap[b]?) := fun b hb => (HBD.out.block b (by obtain ⟨u, cls, k1, k2, k3⟩ := HFk.out; exact (k3 b (by simp [hb])).1)).trans (HPk.out b hb)
   clear K1 p1 HBD HB5 HFk HSk HRk HPk HBk
   go_wp2_with fail
   go_at_call 76
   refine (say3p C _ wb gp G.vars _ (sb :: rb :: Ps) HFv.out (-D) (X) (Y) (by have := HLEN.out; omega)).mono ?_
   rintro e w6 ⟨rfl, hf_w6, hb_w6, hk_w6⟩
   have HF_w6 := hidden hf_w6
   have HB_w6 := hidden hb_w6
   have HS_w6 : Hid (w6.heap[sb]? = some (.cells ((List.range i).map (fun (j : Nat) => Value.int .i64 (bf + 1 + (j : Int))) ++ List.replicate (pn - i) (Value.int .i64 0)).toArray 3 (0, 0))) := (hk_w6 sb (by simp)).trans HSv.out
   have HR_w6 : Hid (w6.heap[rb]? = some (.cells #[.int .i64 0, .slice none 0 0] 24 (0, 0))) := (hk_w6 rb (by simp)).trans HRv.out
   have HP_w6 : Hid (∀ b, b ∈ Ps → w6.heap[b]? = w.heap[b]?) := fun b hb => (hk_w6 b (by simp [hb])).trans (HPv.out b hb)
   clear hf_w6 hb_w6 hk_w6
   go_wp2_with fail
   go_at_call 76
   refine (say3p C _ wb gp G.vars _ (sb :: rb :: Ps) HF_w6.out (-D) (-X) (-Y) (by have := HLEN.out; rw [List.length_append, List.length_singleton]; omega)).mono ?_
   rintro e w7 ⟨rfl, hf_w7, hb_w7, hk_w7⟩
   have HF_w7 := hidden hf_w7
   have HB_w7 := hidden hb_w7
   have HS_w7 : Hid (w7.heap[sb]? = some (.cells ((List.range i).map (fun (j : Nat) => Value.int .i64 (bf + 1 + (j : Int))) ++ List.replicate (pn - i) (Value.int .i64 0)).toArray 3 (0, 0))) := (hk_w7 sb (by simp)).trans HS_w6.out
   have HR_w7 : Hid (w7.heap[rb]? = some (.cells #[.int .i64 0, .slice none 0 0] 24 (0, 0))) := (hk_w7 rb (by simp)).trans HR_w6.out
   have HP_w7 : Hid (∀ b, b ∈ Ps → w7.heap[b]? = w.heap[b]?) := fun b hb => (hk_w7 b (by simp [hb])).trans (HP_w6.out b hb)
   clear hf_w7 hb_w7 hk_w7
   obtain ⟨ov, hov⟩ := some_cell bf pn i hlt
   have s0 : w7.cell? ⟨sb, i, none⟩ = some ov := (cell_of_row _ _ i _ _ (0, 0) HS_w7.out).trans hov
   have sz0 : w7.frozen? ⟨sb, i, none⟩ = false := frozen_of_row w7 sb i _ _ HS_w7.out
   have HFs := hidden (HF_w7.out.set (b := sb) (by simp) i (.int .i64 D))
   have HSs : Hid ((w7.setCell ⟨sb, i, none⟩ (.int .i64 D)).heap[sb]? = some (.cells ((List.range (i + 1)).map (fun (j : Nat) => Value.int .i64 (bf + 1 + (j : Int))) ++ List.replicate (pn - (i + 1)) (Value.int .i64 0)).toArray 3 (0, 0))) := by
    have := set_self (o := i) (u := .int .i64 D) HS_w7.out
    rw [HD.out] at this ⊢
    rw [some_next bf pn i hlt] at this
    exact this
   have hgs := gset w7 sb i (.int .i64 D)
   have HRs : Hid ((w7.setCell ⟨sb, i, none⟩ (.int .i64 D)).heap[rb]? = some (.cells #[.int .i64 0, .slice none 0 0] 24 (0, 0))) := (hgs.block rb (Array.getElem?_eq_some_iff.1 HR_w7.out).1 (fun e => hsr (Option.some.inj e).symm)).trans HR_w7.out
   have HPs : Hid (∀ b, b ∈ Ps → (w7.setCell ⟨sb, i, none⟩ (.int .i64 D)).heap[b]? = w.heap[b]?) := fun b hb => by
    obtain ⟨u, cls, k1, k2, k3⟩ := HF_w7.out
    obtain ⟨u0, cls0, k10, k20, k30⟩ := HW.out
    have hbw := (k30 b hb).1
    refine (hgs.block b (k3 b (by simp [hb])).1 (fun e => ?_)).trans (HP_w7.out b hb)
    have := Option.some.inj e
    omega
   have HBs : Hid (Below C w (w7.setCell ⟨sb, i, none⟩ (.int .i64 D))) := ((HBv.out.trans HB_w6.out).trans HB_w7.out).trans (below_of hgs (by omega) HF_w7.out.base)
   clear hov hgs
   go_wp2_with fail
   generalize World.setCell w7 _ _ = w9 at HFs HSs HRs HPs HBs ⊢
   have HF9 : Hid (WFP C w9 wb gp G.vars (F ++ (List.range (i + 1)).flatMap (unlikeF G.vars k bf prs)) (sb :: rb :: Ps)) := by
    have := HFs.out
    show WFP _ _ _ _ _ _ _
    rw [flat_next, HGF.out]
    simpa using this
   clear s0 sz0 HFs HFv HSv HRv HPv HBv HF_w6 HF_w7 HS_w6 HS_w7 HR_w6 HR_w7 HP_w6 HP_w7 HB_w6 HB_w7
   go_wp2
   go_roundw
   case measure => simp [intOf]; omega
   case rel => exact ⟨i + 1, by omega, by simp, HF9.out, HSs.out, HRs.out, HPs.out, HBs.out⟩
  ·have hge : ¬ ((i : Int) < (pn : Int)) := by omega
   obtain rfl : i = pn := by omega
   have HLEN : Hid ((F ++ (List.range i).flatMap (unlikeF G.vars k bf prs)).length ≤ fl + 2 * i) := by
    have := flat_len (unlikeF G.vars k bf prs) 2 (unlikeF_len _ _ _ _) i
    have := HFL.out
    simp only [List.length_append]
    show _ ≤ _
    omega
   have hslr : sb < wr.heap.size := (Array.getElem?_eq_some_iff.1 HSk.out).1
   have SO := hidden (say_own C wr wb gp G.vars _ (sb :: rb :: Ps) (rb :: []) HFk.out (someF bf i) sb i i (by simp [someF]) (by simp) (by omega) (fun b hb => ⟨by simp at hb ⊢; exact .inr (.inl hb), fun e => by simp at hb; omega⟩) (rowAt_flat hslr (fun l hl => by obtain ⟨q, _, rfl⟩ := List.mem_map.1 hl; rfl) (fun m v hm => by
    rw [cell_of_row _ _ m _ _ _ HSk.out]
    rw [flat_ints] at hm
    simpa [someF] using hm)) (by have := HLEN.out; omega))
   have e5 : IntKind.i64.wrap (bf + (i : Int)) = bf + (i : Int) := wrapI _ (by omega) (by omega)
   go_wp2_with fail
   go_at_call 76
   refine SO.out.mono ?_
   rintro e w6 ⟨rfl, hf6, hb6, hk6⟩
   have HF6 := hidden hf6
   have HB6 : Hid (Below C w w6) := HBk.out.trans hb6
   have HR6 : Hid (w6.heap[rb]? = some (.cells #[.int .i64 0, .slice none 0 0] 24 (0, 0))) := (hk6 rb (by simp)).trans HRk.out
   obtain ⟨a, c, cls, hcl, f2, hge6, htold⟩ := hf6.told (b := rb) (by simp)
   have HTOLD := hidden htold
   have HCLS := hidden hcl
   have r0 : w6.cell? ⟨rb, 0, none⟩ = some (.int .i64 0) := cell_of_row _ _ 0 _ _ (0, 0) HR6.out
   have r1 : w6.cell? ⟨rb, 1, none⟩ = some (.slice none 0 0) := cell_of_row _ _ 1 _ _ (0, 0) HR6.out
   have y0 : w6.frozen? ⟨rb, 0, none⟩ = false := frozen_of_row w6 rb 0 _ _ HR6.out
   have y1 : w6.frozen? ⟨rb, 1, none⟩ = false := frozen_of_row w6 rb 1 _ _ HR6.out
   clear hf6 hb6 hk6 SO HFk HSk HRk HPk HBk htold hcl
   obtain ⟨cn, HCN⟩ : ∃ n, Hid (n = cls.length) := ⟨_, rfl⟩
   rw [← HCN.out] at f2
   go_wp2
   have hz0 : ((w6.setCell ⟨rb, 0, none⟩ (.int .i64 (bf + (i : Int)))).setCell ⟨rb, 1, none⟩ (.slice a cn c)).cell? ⟨rb, 0, none⟩ = some (.int .i64 (bf + (i : Int))) := (World.cell?_setCell_other (h := fun e => by cases e) ..).trans (World.cell?_setCell_same (h := r0) ..)
   have hz1 : ((w6.setCell ⟨rb, 0, none⟩ (.int .i64 (bf + (i : Int)))).setCell ⟨rb, 1, none⟩ (.slice a cn c)).cell? ⟨rb, 1, none⟩ = some (.slice a cn c) := World.cell?_setCell_same (h := (World.cell?_setCell_other (h := fun e => by cases e) ..).trans r1) ..
   have HG9 := hidden (grown_trans' (gset w6 rb 0 (.int .i64 (bf + (i : Int)))) (gset (w6.setCell ⟨rb, 0, none⟩ (.int .i64 (bf + (i : Int)))) rb 1 (.slice a cn c)))
   generalize World.setCell _ (⟨rb, 1, none⟩ : Addr) _ = w9 at HG9 hz0 hz1 ⊢
   clear r0 r1 y0 y1 f2
   refine bodyPost_ret (v := .agg #[.int .i64 (bf + (i : Int)), .slice a cn c]) (by simp [results, Try.results65, go_sem, *]) rfl ?_
   obtain ⟨t1, t2⟩ := HTOLD.out w9 HG9.out.size (fun b' j hb' hlt' => World.cell?_of_block (HG9.out.block b' hlt' (fun e => hb' (Option.some.inj e))))
   exact ⟨a, c, cls, by rw [HCN.out], HCLS.out, t1, t2, hge6, HB6.out.trans (below_of HG9.out (by omega) HF6.out.base)⟩
end Go.Proofs.Ytefjicdhccfieaa
