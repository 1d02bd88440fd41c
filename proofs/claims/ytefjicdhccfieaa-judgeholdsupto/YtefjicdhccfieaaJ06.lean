import Derived.Test.YtefjicdhccfieaaJ01
import Derived.Test.YtefjicdhccfieaaJ05
import Derived.Test.YtefjicdhccfieaaProg
import Derived.Test.YtefjicdhccfieaaJ02
import Derived.Deep.RegionHeld3
import Derived.Deep.Cut
set_option maxRecDepth 100000
set_option maxHeartbeats 16000000
namespace Go.Proofs.Ytefjicdhccfieaa
open Go.RowKit
def pairsOk (n : Int) (prs : List AndD) : Bool := prs.all fun d => litOkG n d.x && litOkG n d.y
theorem areLiterals_any (C : Nat) (w : World) (p : Nat) (S : GrS) (G : GrD) (hX : BoxAt w p S G) (h0 : 0 ≤ G.ins) (h1 : G.ins ≤ 60000) (h2 : G.lats.length < big) (h3 : G.ands.length < big) (hn : G.vars ≤ 1000000) (hn0 : 0 ≤ G.vars) (a : Option Addr) (c : Nat) (prs : List AndD) (R : RowAt C w a 2 (prs.map AndD.cells)) (hC : C ≤ w.heap.size) (hl : prs.length < big) :
  Calls Try.prog 33 #[.pointer (some ⟨p, 0, none⟩), .slice a prs.length c] w fun e w' => e = .returned (.bool (pairsOk G.vars prs)) ∧ Below w.heap.size w w' := by
 have VA : Hid (∀ w p, BoxAt w p S G → Calls Try.prog 62 #[.pointer (some ⟨p, 0, none⟩)] w fun e w' => e = .returned (.int .i64 G.vars) ∧ ∃ n, w' = w.drewN n) := fun w p hb => variables_any w p S G hb h0 h1 h2 h3
 generalize G.vars = n at *
 have IL : Hid (∀ l w, Calls Try.prog 61 #[.int .i64 l, .int .i64 n] w fun e w' => e = .returned (.bool (litOkG n l)) ∧ w' = w) := fun l w => isLiteral_any l n (by omega) (by omega) w
 have HR := hidden R
 have HX := hidden hX
 obtain ⟨r, HRR⟩ : ∃ r, Hid (pairsOk n prs = r) := ⟨_, rfl⟩
 rw [HRR.out]
 simp only [big] at hl
 clear R hX h0 h1 h2 h3
 go_enter Try.func33, Try.ntmps33
 go_wp2_with fail
 go_loopw [9] (fun i' w' => ∃ (k : Nat), k ≤ prs.length ∧ i' = .int .i64 k ∧ Hid (pairsOk n (prs.take k) = true) ∧ Hid (Below w.heap.size w w')) (fun i' _ => prs.length - (intOf i').toNat)
 case atStart => exact ⟨0, Nat.zero_le _, rfl, rfl, Below.refl _ _⟩
 case round =>
  obtain ⟨k, hk, rfl, HA, HBr⟩ := hrel
  by_cases hlt : k < prs.length
  ·obtain ⟨d, hd⟩ := getElem_lt hlt
   obtain ⟨b, o, ea, hlb, hc⟩ := HR.out.el hd
   have HD := hidden hd
   have hbW : b < w.heap.size := Nat.lt_of_lt_of_le hlb hC
   have c0 : wr.cell? ⟨b, o + k * 2, none⟩ = some (.int .i64 d.x) := (HBr.out.cell (p := ⟨b, o + k * 2, none⟩) hbW).trans (hc 0 _ rfl)
   have c1 : wr.cell? ⟨b, o + k * 2 + 1, none⟩ = some (.int .i64 d.y) := (HBr.out.cell (p := ⟨b, o + k * 2 + 1, none⟩) hbW).trans (hc 1 _ rfl)
   have hltI : (k : Int) < (prs.length : Int) := by omega
   have e2 : IntKind.i64.wrap ((k : Int) + 1) = (k : Int) + 1 := wrapI _ (by omega) (by omega)
   have IX := hidden (IL.out d.x)
   have IY := hidden (IL.out d.y)
   have HN0 : Hid (pairsOk n (prs.take (k + 1)) = (litOkG n d.x && litOkG n d.y)) := by
    show _ = _
    unfold pairsOk at HA ⊢
    rw [all_next _ _ k d HD.out, HA.out, Bool.true_and]
   have HFF : Hid ((litOkG n d.x && litOkG n d.y) = false → r = false) := fun hf => by
    rw [← HRR.out]
    exact List.all_eq_false.2 ⟨d, List.mem_of_getElem? HD.out, by rw [hf]; decide⟩
   generalize litOkG n d.x = bx at *
   generalize litOkG n d.y = bY at *
   obtain ⟨x, y⟩ := d
   simp only at c0 c1 IX IY
   rw [ea]
   clear hd hc hlb ea
   go_upto_region 4 with fail
   generalize hW5 : World.alloc wr _ = w5
   have HB5 : Hid (Below w.heap.size w w5) := by rw [← hW5]; exact HBr.out.alloc HBr.out.size _
   have z0 : w5.cell? ⟨wr.heap.size, 0, none⟩ = some (.int .i64 x) := by rw [← hW5]; simp
   have z1 : w5.cell? ⟨wr.heap.size, 1, none⟩ = some (.int .i64 y) := by rw [← hW5]; simp
   have HX5 : Hid (BoxAt w5 p S G) := HX.out.to HX.out.lt HB5.out
   clear hW5 c0 c1
   generalize wr.heap.size = zb at *
   have hzb : zb < w5.heap.size := by
    rcases Nat.lt_or_ge zb w5.heap.size with h | h
    ·exact h
    ·simp [World.cell?, Array.getElem?_eq_none h] at z0
   have K1 : Hid (∀ w', Below w5.heap.size w5 w' → (fun w' => w'.cell? ⟨zb, 0, none⟩ = some (.int .i64 x) ∧ w'.cell? ⟨zb, 1, none⟩ = some (.int .i64 y)) w') := fun w' hb => ⟨(hb.cell (p := ⟨zb, 0, none⟩) hzb).trans z0, (hb.cell (p := ⟨zb, 1, none⟩) hzb).trans z1⟩
   clear z0 z1
   cases bx
   ·have HF := hidden (HFF.out rfl)
    refine wp_region_noPanic ?_
    refine wp_region_held_drew (S := (fun w' => w'.cell? ⟨zb, 0, none⟩ = some (.int .i64 x) ∧ w'.cell? ⟨zb, 1, none⟩ = some (.int .i64 y))) (by kernel_rfl) (by first | assumption | exact K1.out _ (Below.refl _ _) | exact K1.out _ (Below.drew (Below.refl _ _)) | exact K1.out _ (by assumption)) (fun hHeld => ?_)
    refine tk 0 ?_
    refine tk 1 ?_
    refine tk 2 ?_
    refine wpAnyH_ready (rs := [3]) (by kernel_rfl) (by simp) ?_
    refine AllReadyH.cons (o := _) rfl (fun K hK => ?_) AllReadyH.nil
    (try simp only [gA, gB, gC])
    go_simp
    go_at_call 62
    refine (VA.out _ _ (HX5.out.to HX5.out.lt (Below.drew (Below.refl w5.heap.size w5)))).mono ?_
    rintro e v1 ⟨rfl, nd1, hv1⟩
    have hb1 : Below w5.heap.size w5 v1 := by rw [hv1]; exact Below.drewN (Below.drew (Below.refl w5.heap.size w5)) nd1
    clear hv1
    go_wp2_with fail
    refine hK.out _ _ (by first | assumption | exact K1.out _ (Below.refl _ _) | exact K1.out _ (Below.drew (Below.refl _ _)) | exact K1.out _ (by assumption)) (fun hHeld1 => ?_)
    clear hK K
    try simp only [Act.put, sA, sB, sC]
    refine wpAnyH_ready (rs := [4]) (by kernel_rfl) (by simp) ?_
    refine AllReadyH.cons (o := _) rfl (fun K hK => ?_) AllReadyH.nil
    (try simp only [gA, gB, gC])
    go_simp
    go_at_call 61
    refine (IX.out _).mono ?_
    rintro e v9 ⟨rfl, rfl⟩
    go_wp2_with fail
    refine hK.out _ _ (by first | assumption | exact K1.out _ (Below.refl _ _) | exact K1.out _ (Below.drew (Below.refl _ _)) | exact K1.out _ (by assumption)) (fun hHeld2 => ?_)
    clear hK K
    try simp only [Act.put, sA, sB, sC]
    refine tk 5 ?_
    refine tk 6 ?_
    refine tu 7 ?_
    refine tu 8 ?_
    refine tu 9 ?_
    refine tu 10 ?_
    refine tu 11 ?_
    refine tu 12 ?_
    refine tk 13 ?_
    refine wpAnyH_done (by kernel_rfl) ?_ _
    refine NoPanic.normal ?_
    go_wp2
    go_ret
    exact ⟨ret_bool HF.out.symm, HB5.out.trans (hb1.mono HB5.out.size)⟩
   ·cases bY
    ·have HF := hidden (HFF.out rfl)
     refine wp_region_noPanic ?_
     refine wp_region_held_drew (S := (fun w' => w'.cell? ⟨zb, 0, none⟩ = some (.int .i64 x) ∧ w'.cell? ⟨zb, 1, none⟩ = some (.int .i64 y))) (by kernel_rfl) (by first | assumption | exact K1.out _ (Below.refl _ _) | exact K1.out _ (Below.drew (Below.refl _ _)) | exact K1.out _ (by assumption)) (fun hHeld => ?_)
     refine tk 0 ?_
     refine tk 1 ?_
     refine tk 2 ?_
     refine wpAnyH_ready (rs := [3]) (by kernel_rfl) (by simp) ?_
     refine AllReadyH.cons (o := _) rfl (fun K hK => ?_) AllReadyH.nil
     (try simp only [gA, gB, gC])
     go_simp
     go_at_call 62
     refine (VA.out _ _ (HX5.out.to HX5.out.lt (Below.drew (Below.refl w5.heap.size w5)))).mono ?_
     rintro e v1 ⟨rfl, nd1, hv1⟩
     have hb1 : Below w5.heap.size w5 v1 := by rw [hv1]; exact Below.drewN (Below.drew (Below.refl w5.heap.size w5)) nd1
     clear hv1
     go_wp2_with fail
     refine hK.out _ _ (by first | assumption | exact K1.out _ (Below.refl _ _) | exact K1.out _ (Below.drew (Below.refl _ _)) | exact K1.out _ (by assumption)) (fun hHeld1 => ?_)
     clear hK K
     try simp only [Act.put, sA, sB, sC]
     refine wpAnyH_ready (rs := [4]) (by kernel_rfl) (by simp) ?_
     refine AllReadyH.cons (o := _) rfl (fun K hK => ?_) AllReadyH.nil
     (try simp only [gA, gB, gC])
     go_simp
     go_at_call 61
     refine (IX.out _).mono ?_
     rintro e v9 ⟨rfl, rfl⟩
     go_wp2_with fail
     refine hK.out _ _ (by first | assumption | exact K1.out _ (Below.refl _ _) | exact K1.out _ (Below.drew (Below.refl _ _)) | exact K1.out _ (by assumption)) (fun hHeld2 => ?_)
     clear hK K
     try simp only [Act.put, sA, sB, sC]
     refine tk 5 ?_
     refine tk 6 ?_
     refine tk 7 ?_
     refine tk 8 ?_
     refine tk 9 ?_
     refine wpAnyH_ready (rs := [10]) (by kernel_rfl) (by simp) ?_
     refine AllReadyH.cons (o := _) rfl (fun K hK => ?_) AllReadyH.nil
     (try simp only [gA, gB, gC])
     go_simp
     go_at_call 62
     refine (VA.out _ _ (HX5.out.to HX5.out.lt (hb1))).mono ?_
     rintro e v2 ⟨rfl, nd2, hv2⟩
     have hb2 : Below w5.heap.size w5 v2 := by rw [hv2]; exact Below.drewN (hb1) nd2
     clear hv2
     go_wp2_with fail
     refine hK.out _ _ (by first | assumption | exact K1.out _ (Below.refl _ _) | exact K1.out _ (Below.drew (Below.refl _ _)) | exact K1.out _ (by assumption)) (fun hHeld3 => ?_)
     clear hK K
     try simp only [Act.put, sA, sB, sC]
     refine wpAnyH_ready (rs := [11]) (by kernel_rfl) (by simp) ?_
     refine AllReadyH.cons (o := _) rfl (fun K hK => ?_) AllReadyH.nil
     (try simp only [gA, gB, gC])
     go_simp
     go_at_call 61
     refine (IY.out _).mono ?_
     rintro e v9 ⟨rfl, rfl⟩
     go_wp2_with fail
     refine hK.out _ _ (by first | assumption | exact K1.out _ (Below.refl _ _) | exact K1.out _ (Below.drew (Below.refl _ _)) | exact K1.out _ (by assumption)) (fun hHeld4 => ?_)
     clear hK K
     try simp only [Act.put, sA, sB, sC]
     refine tk 12 ?_
     refine tk 13 ?_
     refine wpAnyH_done (by kernel_rfl) ?_ _
     refine NoPanic.normal ?_
     go_wp2
     go_ret
     exact ⟨ret_bool HF.out.symm, HB5.out.trans (hb2.mono HB5.out.size)⟩
    ·skip
     refine wp_region_noPanic ?_
     refine wp_region_held_drew (S := (fun w' => w'.cell? ⟨zb, 0, none⟩ = some (.int .i64 x) ∧ w'.cell? ⟨zb, 1, none⟩ = some (.int .i64 y))) (by kernel_rfl) (by first | assumption | exact K1.out _ (Below.refl _ _) | exact K1.out _ (Below.drew (Below.refl _ _)) | exact K1.out _ (by assumption)) (fun hHeld => ?_)
     refine tk 0 ?_
     refine tk 1 ?_
     refine tk 2 ?_
     refine wpAnyH_ready (rs := [3]) (by kernel_rfl) (by simp) ?_
     refine AllReadyH.cons (o := _) rfl (fun K hK => ?_) AllReadyH.nil
     (try simp only [gA, gB, gC])
     go_simp
     go_at_call 62
     refine (VA.out _ _ (HX5.out.to HX5.out.lt (Below.drew (Below.refl w5.heap.size w5)))).mono ?_
     rintro e v1 ⟨rfl, nd1, hv1⟩
     have hb1 : Below w5.heap.size w5 v1 := by rw [hv1]; exact Below.drewN (Below.drew (Below.refl w5.heap.size w5)) nd1
     clear hv1
     go_wp2_with fail
     refine hK.out _ _ (by first | assumption | exact K1.out _ (Below.refl _ _) | exact K1.out _ (Below.drew (Below.refl _ _)) | exact K1.out _ (by assumption)) (fun hHeld1 => ?_)
     clear hK K
     try simp only [Act.put, sA, sB, sC]
     refine wpAnyH_ready (rs := [4]) (by kernel_rfl) (by simp) ?_
     refine AllReadyH.cons (o := _) rfl (fun K hK => ?_) AllReadyH.nil
     (try simp only [gA, gB, gC])
     go_simp
     go_at_call 61
     refine (IX.out _).mono ?_
     rintro e v9 ⟨rfl, rfl⟩
     go_wp2_with fail
     refine hK.out _ _ (by first | assumption | exact K1.out _ (Below.refl _ _) | exact K1.out _ (Below.drew (Below.refl _ _)) | exact K1.out _ (by assumption)) (fun hHeld2 => ?_)
     clear hK K
     try simp only [Act.put, sA, sB, sC]
     refine tk 5 ?_
     refine tk 6 ?_
     refine tk 7 ?_
     refine tk 8 ?_
     refine tk 9 ?_
     refine wpAnyH_ready (rs := [10]) (by kernel_rfl) (by simp) ?_
     refine AllReadyH.cons (o := _) rfl (fun K hK => ?_) AllReadyH.nil
     (try simp only [gA, gB, gC])
     go_simp
     go_at_call 62
     refine (VA.out _ _ (HX5.out.to HX5.out.lt (hb1))).mono ?_
     rintro e v2 ⟨rfl, nd2, hv2⟩
     have hb2 : Below w5.heap.size w5 v2 := by rw [hv2]; exact Below.drewN (hb1) nd2
     clear hv2
     go_wp2_with fail
     refine hK.out _ _ (by first | assumption | exact K1.out _ (Below.refl _ _) | exact K1.out _ (Below.drew (Below.refl _ _)) | exact K1.out _ (by assumption)) (fun hHeld3 => ?_)
     clear hK K
     try simp only [Act.put, sA, sB, sC]
     refine wpAnyH_ready (rs := [11]) (by kernel_rfl) (by simp) ?_
     refine AllReadyH.cons (o := _) rfl (fun K hK => ?_) AllReadyH.nil
     (try simp only [gA, gB, gC])
     go_simp
     go_at_call 61
     refine (IY.out _).mono ?_
     rintro e v9 ⟨rfl, rfl⟩
     go_wp2_with fail
     refine hK.out _ _ (by first | assumption | exact K1.out _ (Below.refl _ _) | exact K1.out _ (Below.drew (Below.refl _ _)) | exact K1.out _ (by assumption)) (fun hHeld4 => ?_)
     clear hK K
     try simp only [Act.put, sA, sB, sC]
     refine tk 12 ?_
     refine tk 13 ?_
     refine wpAnyH_done (by kernel_rfl) ?_ _
     refine NoPanic.normal ?_
     go_wp2
     go_roundw
     case measure => simp [intOf]; omega
     case rel => exact ⟨k + 1, by omega, by simp, HN0.out, HB5.out.trans (hb2.mono HB5.out.size)⟩
  ·have hge : ¬ ((k : Int) < (prs.length : Int)) := by omega
   have HF : Hid (r = true) := by
    have := HA.out
    rw [List.take_of_length_le (by omega), HRR.out] at this
    exact this
   go_wp2
   go_ret
   exact ⟨ret_bool HF.out.symm, HBr.out⟩
end Go.Proofs.Ytefjicdhccfieaa

set_option maxRecDepth 100000
set_option maxHeartbeats 16000000
namespace Go.Proofs.Ytefjicdhccfieaa
inductive Der (F : List (List Int)) (A : Int → Prop) : Int → Prop
 | asm {l : Int} : A l → Der F A l
 | unit {c : List Int} {l : Int} : c ∈ F → l ∈ c → (∀ m, m ∈ c → m ≠ l → Der F A (-m)) → Der F A l
def Clash (F : List (List Int)) (A : Int → Prop) : Prop := ∃ c, c ∈ F ∧ ∀ m, m ∈ c → Der F A (-m)
theorem Der.mono {F F' : List (List Int)} {A A' : Int → Prop} (hF : ∀ c, c ∈ F → c ∈ F') (hA : ∀ l, A l → A' l) {l : Int} (h : Der F A l) : Der F' A' l := by
 induction h with
 | asm h => exact .asm (hA _ h)
 | unit h1 h2 _ ih => exact .unit (hF _ h1) h2 ih
theorem Clash.mono {F F' : List (List Int)} {A A' : Int → Prop} (hF : ∀ c, c ∈ F → c ∈ F') (hA : ∀ l, A l → A' l) (h : Clash F A) : Clash F' A' := by
 obtain ⟨c, h1, h2⟩ := h
 exact ⟨c, hF c h1, fun m hm => (h2 m hm).mono hF hA⟩
def ClosedS (F : List (List Int)) (S : Int → Prop) : Prop := ∀ c, c ∈ F → ∀ l, l ∈ c → (∀ m, m ∈ c → m ≠ l → S (-m)) → S l
theorem Der.closed {F : List (List Int)} {A S : Int → Prop} (hS : ClosedS F S) (hA : ∀ l, A l → S l) {l : Int} (h : Der F A l) : S l := by
 induction h with
 | asm h => exact hA _ h
 | unit h1 h2 _ ih => exact hS _ h1 _ h2 ih
def Cons (S : Int → Prop) : Prop := ∀ l, S l → S (-l) → False
def Rests (S : Int → Prop) (d : List Int) : Prop := (∃ l, l ∈ d ∧ S l) ∨ ∃ a b, a ∈ d ∧ b ∈ d ∧ a ≠ b ∧ ¬ S (-a) ∧ ¬ S (-b)
def Kept (L : Int → Prop) (c d : List Int) : Prop := (∀ m, m ∈ d → m ∈ c) ∧ ∀ m, m ∈ c → m ∉ d → L (-m)
def ToldC (L : Int → Prop) (D : List (List Int)) (c : List Int) : Prop := (∃ l, l ∈ c ∧ L l) ∨ (∃ l, l ∈ c ∧ -l ∈ c) ∨ ∃ d, d ∈ D ∧ Kept L c d
structure Book (F D : List (List Int)) (L : Int → Prop) : Prop where
 sound : ∀ l, L l → Der F (fun _ => False) l
 told : ∀ c, c ∈ F → ToldC L D c
 from_ : ∀ d, d ∈ D → ∃ c, c ∈ F ∧ Kept L c d
 nz : ∀ c, c ∈ F → ∀ l, l ∈ c → l ≠ 0
theorem rests_closed {F D : List (List Int)} {L S : Int → Prop} (hb : Book F D L) (hL : ∀ l, L l → S l) (hc : Cons S) (hr : ∀ d, d ∈ D → Rests S d) : ClosedS F S := by
 intro c hcF l hl hm
 rcases hb.told c hcF with ⟨k, hk, hkL⟩ | ⟨k, hk, hk2⟩ | ⟨d, hd, hd1, hd2⟩
 ·by_cases e : k = l
  ·rw [← e]; exact hL k hkL
  ·exact absurd (hm k hk e) (fun h => hc k (hL k hkL) h)
 ·by_cases e : k = l
  ·subst e
   have e2 : -k ≠ k := by have := hb.nz c hcF k hk; omega
   have := hm (-k) hk2 e2
   rw [Int.neg_neg] at this
   exact this
  ·by_cases e2 : -k = l
   ·rw [← e2]; exact hm k hk e
   ·have h1 := hm k hk e
    have h2 := hm (-k) hk2 e2
    exact absurd h2 (fun h => hc (-k) h1 h)
 ·rcases hr d hd with ⟨k, hk, hkS⟩ | ⟨a, b, ha, hb', hab, hna, hnb⟩
  ·by_cases e : k = l
   ·rw [← e]; exact hkS
   ·exact absurd (hm k (hd1 k hk) e) (fun h => hc k hkS h)
  ·by_cases e : a = l
   ·have : b ≠ l := fun e2 => hab (by rw [e, e2])
    exact absurd (hm b (hd1 b hb') this) hnb
   ·exact absurd (hm a (hd1 a ha) e) hna
theorem rests_quiet {F D : List (List Int)} {L A S : Int → Prop} (hb : Book F D L) (hL : ∀ l, L l → S l) (hA : ∀ l, A l → S l) (hc : Cons S) (hr : ∀ d, d ∈ D → Rests S d) : ¬ Clash F A := by
 rintro ⟨c, hcF, hm⟩
 have hcl := rests_closed hb hL hc hr
 have hS : ∀ m, m ∈ c → S (-m) := fun m h => (hm m h).closed hcl hA
 rcases hb.told c hcF with ⟨k, hk, hkL⟩ | ⟨k, hk, hk2⟩ | ⟨d, hd, hd1, hd2⟩
 ·exact hc k (hL k hkL) (hS k hk)
 ·have h1 := hS k hk
  have h2 := hS (-k) hk2
  exact hc (-k) h1 h2
 ·rcases hr d hd with ⟨k, hk, hkS⟩ | ⟨a, b, ha, _, _, hna, _⟩
  ·exact hc k hkS (hS k (hd1 k hk))
  ·exact hna (hS a (hd1 a ha))
theorem Book.der {F D : List (List Int)} {L A : Int → Prop} (hb : Book F D L) {l : Int} (h : L l) : Der F A l := (hb.sound l h).mono (fun _ h => h) (fun _ h => h.elim)
theorem Book.unit {F D : List (List Int)} {L A : Int → Prop} (hb : Book F D L) {d : List Int} (hd : d ∈ D) {l : Int} (hl : l ∈ d) (hm : ∀ m, m ∈ d → m ≠ l → Der F A (-m)) : Der F A l := by
 obtain ⟨c, hc, h1, h2⟩ := hb.from_ d hd
 refine .unit hc (h1 l hl) (fun m hmc hml => ?_)
 by_cases hmd : m ∈ d
 ·exact hm m hmd hml
 ·exact hb.der (h2 m hmc hmd)
theorem Book.clash {F D : List (List Int)} {L A : Int → Prop} (hb : Book F D L) {d : List Int} (hd : d ∈ D) (hm : ∀ m, m ∈ d → Der F A (-m)) : Clash F A := by
 obtain ⟨c, hc, h1, h2⟩ := hb.from_ d hd
 refine ⟨c, hc, fun m hmc => ?_⟩
 by_cases hmd : m ∈ d
 ·exact hm m hmd
 ·exact hb.der (h2 m hmc hmd)
theorem Kept.mono {L L' : Int → Prop} {c d : List Int} (h : Kept L c d) (hL : ∀ l, L l → L' l) : Kept L' c d := ⟨h.1, fun m h1 h2 => hL _ (h.2 m h1 h2)⟩
theorem ToldC.mono {L L' : Int → Prop} {D D' : List (List Int)} {c : List Int} (h : ToldC L D c) (hL : ∀ l, L l → L' l) (hD : ∀ d, d ∈ D → d ∈ D') : ToldC L' D' c := by
 rcases h with ⟨k, h1, h2⟩ | h | ⟨d, h1, h2⟩
 ·exact .inl ⟨k, h1, hL k h2⟩
 ·exact .inr (.inl h)
 ·exact .inr (.inr ⟨d, hD d h1, h2.mono hL⟩)
def Alike2 (D D' : List (List Int)) : Prop := (∀ d, d ∈ D → ∃ e, e ∈ D' ∧ ∀ m, m ∈ d ↔ m ∈ e) ∧ ∀ e, e ∈ D' → ∃ d, d ∈ D ∧ ∀ m, m ∈ d ↔ m ∈ e
theorem Kept.like {L : Int → Prop} {c d e : List Int} (h : Kept L c d) (he : ∀ m, m ∈ d ↔ m ∈ e) : Kept L c e := ⟨fun m hm => h.1 m ((he m).2 hm), fun m h1 h2 => h.2 m h1 (fun h3 => h2 ((he m).1 h3))⟩
theorem Book.like {F D D' : List (List Int)} {L : Int → Prop} (hb : Book F D L) (h : Alike2 D D') : Book F D' L := by
 refine ⟨hb.sound, fun c hc => ?_, fun e he => ?_, hb.nz⟩
 ·rcases hb.told c hc with h1 | h1 | ⟨d, h1, h2⟩
  ·exact .inl h1
  ·exact .inr (.inl h1)
  ·obtain ⟨e, he, hde⟩ := h.1 d h1
   exact .inr (.inr ⟨e, he, h2.like hde⟩)
 ·obtain ⟨d, hd, hde⟩ := h.2 e he
  obtain ⟨c, hc, hk⟩ := hb.from_ d hd
  exact ⟨c, hc, hk.like hde⟩
theorem Book.nil : Book [] [] (fun _ => False) := ⟨fun _ h => h.elim, fun _ h => by (cases h), fun _ h => by (cases h), fun _ h => by (cases h)⟩
theorem Book.more {F D : List (List Int)} {L L' : Int → Prop} (hb : Book F D L) (hL : ∀ l, L l → L' l) (hs : ∀ l, L' l → Der F (fun _ => False) l) : Book F D L' :=
 ⟨hs, fun c hc => (hb.told c hc).mono hL (fun _ h => h), fun d hd => by
  obtain ⟨c, hc, hk⟩ := hb.from_ d hd
  exact ⟨c, hc, hk.mono hL⟩, hb.nz⟩
theorem Book.add {F D : List (List Int)} {L : Int → Prop} (hb : Book F D L) {c : List Int} (hc : ToldC L D c) (h0 : ∀ l, l ∈ c → l ≠ 0) : Book (F ++ [c]) D L := by
 refine ⟨fun l hl => (hb.sound l hl).mono (fun x hx => List.mem_append_left _ hx) (fun _ h => h), fun x hx => ?_, fun d hd => ?_, fun x hx => ?_⟩
 ·rcases List.mem_append.1 hx with h | h
  ·exact hb.told x h
  ·rw [List.mem_singleton.1 h]; exact hc
 ·obtain ⟨x, hx, hk⟩ := hb.from_ d hd
  exact ⟨x, List.mem_append_left _ hx, hk⟩
 ·rcases List.mem_append.1 hx with h | h
  ·exact hb.nz x h
  ·rw [List.mem_singleton.1 h]; exact h0
theorem Book.keep {F D : List (List Int)} {L : Int → Prop} (hb : Book F D L) {c d : List Int} (hk : Kept L c d) (h0 : ∀ l, l ∈ c → l ≠ 0) : Book (F ++ [c]) (D ++ [d]) L := by
 refine ⟨fun l hl => (hb.sound l hl).mono (fun x hx => List.mem_append_left _ hx) (fun _ h => h), fun x hx => ?_, fun e he => ?_, fun x hx => ?_⟩
 ·rcases List.mem_append.1 hx with h | h
  ·exact (hb.told x h).mono (fun _ h => h) (fun _ h => List.mem_append_left _ h)
  ·rw [List.mem_singleton.1 h]
   exact .inr (.inr ⟨d, by simp, hk⟩)
 ·rcases List.mem_append.1 he with h | h
  ·obtain ⟨x, hx, hk⟩ := hb.from_ e h
   exact ⟨x, List.mem_append_left _ hx, hk⟩
  ·rw [List.mem_singleton.1 h]
   exact ⟨c, by simp, hk⟩
 ·rcases List.mem_append.1 hx with h | h
  ·exact hb.nz x h
  ·rw [List.mem_singleton.1 h]; exact h0
def Fol (F : List (List Int)) (c : List Int) : Prop := (∃ l, l ∈ c ∧ -l ∈ c) ∨ Clash F (fun l => -l ∈ c)
theorem fol_done {F : List (List Int)} {c : List Int} (h : Clash F (fun _ => False)) : Fol F c := .inr (h.mono (fun _ h => h) (fun _ h => h.elim))
end Go.Proofs.Ytefjicdhccfieaa

set_option maxRecDepth 100000
set_option maxHeartbeats 16000000
namespace Go.Proofs.Ytefjicdhccfieaa
open Go.RowKit
theorem cell_new {w : World} {cs : Array Value} {T : TypeId} {n : Nat} (h : n = w.heap.size) {j : Nat} : (w.alloc (.cells cs T)).cell? ⟨n, j, none⟩ = cs[j]? := by
 subst h; simp
theorem cnfValid_any (B : Nat) (w : World) (a : Option Addr) (c : Nat) (v : Int) (cls : List CL) (h : ClAt B w a cls) (hB : B ≤ w.heap.size) :
  Calls Try.prog 20 #[.agg #[.int .i64 v, .slice a cls.length c]] w fun e w' => e = .returned (.bool (FmOk v cls)) ∧ Below w.heap.size w w' := by
 have HAT := hidden h
 have hlen : cls.length ≤ 16777216 := Nat.le_trans (total_len cls) h.tot
 obtain ⟨r, HR⟩ : ∃ r, Hid (FmOk v cls = r) := ⟨_, rfl⟩
 have HRv : Hid (¬ (0 ≤ v ∧ v ≤ 100000) → r = false) := fun hn => by rw [← HR.out]; unfold FmOk; simp; intro h1 h2; exact absurd ⟨h1, h2⟩ hn
 have HRa : Hid (0 ≤ v ∧ v ≤ 100000 → r = cls.all fun t => t.l.all (litOk v)) := fun hn => by rw [← HR.out]; unfold FmOk; simp [hn]
 rw [HR.out]
 clear h HR
 go_enter Try.func20, Try.ntmps20
 go_upto_region 1 with fail
 generalize hW : World.alloc w _ = W
 obtain ⟨gx, hgx⟩ : ∃ x, x = w.heap.size := ⟨_, rfl⟩
 have HBW : Hid (Below w.heap.size w W) := by rw [← hW]; exact (Below.refl _ _).alloc (Nat.le_refl _) _
 have HG : Hid (∀ j, W.cell? ⟨gx, j, none⟩ = (#[.int .i64 v, .slice a cls.length c] : Array Value)[j]?) := by
  rw [← hW, hgx]; intro j; exact cell_new rfl
 have hgl : gx < W.heap.size := by rw [← hW, hgx]; simp
 have HATW : Hid (ClAt W.heap.size W a cls) := by
  rw [← hW]
  exact (HAT.out.to (((Below.refl _ _).alloc (Nat.le_refl _) _).mono hB)).mono (by simp; omega)
 rw [← hgx]
 clear hW hgx HAT
 have q0 := HG.out 0
 have q1 := HG.out 1
 simp at q0 q1
 by_cases hv0 : v < 0
 ·obtain rfl := HRv.out (by omega)
  go_wp2
  go_ret
  exact ⟨rfl, HBW.out⟩
 by_cases hv1 : 100000 < v
 ·obtain rfl := HRv.out (by omega)
  go_wp2
  go_ret
  exact ⟨rfl, HBW.out⟩
 have hra := HRa.out ⟨by omega, by omega⟩
 have HRR := hidden hra
 clear hra HRv HRa
 have K2 : Hid (∀ w', Below W.heap.size W w' → w'.cell? ⟨gx, 0, none⟩ = some (.int .i64 v) ∧ w'.cell? ⟨gx, 1, none⟩ = some (.slice a cls.length c)) := fun w' hb => ⟨(hb.cell (p := ⟨gx, 0, none⟩) hgl).trans q0, (hb.cell (p := ⟨gx, 1, none⟩) hgl).trans q1⟩
 go_wp2_with fail
 clear q0 q1
 go_loopw [3] (fun i' w' => ∃ (k : Nat), k ≤ cls.length ∧ i' = .int .i64 k ∧ Hid ((cls.take k).all (fun t => t.l.all (litOk v)) = true) ∧ Hid (Below W.heap.size W w')) (fun i' _ => cls.length - (intOf i').toNat)
 case atStart => exact ⟨0, Nat.zero_le _, rfl, by simp [Hid], Below.refl _ _⟩
 case round =>
  obtain ⟨k, hk, rfl, HA, HBr⟩ := hrel
  obtain ⟨q0, q1⟩ := K2.out _ HBr.out
  by_cases hlt : k < cls.length
  ·obtain ⟨t, hz⟩ := getElem_lt hlt
   obtain ⟨tb, tz, ea, htb, htc⟩ := HATW.out.row.el hz
   subst ea
   have htm := List.mem_of_getElem? hz
   have HN := hidden (all_next (fun t : CL => t.l.all (litOk v)) cls k t hz)
   have HX : Hid (cls.all (fun t => t.l.all (litOk v)) = true → t.l.all (litOk v) = true) := fun h => List.all_eq_true.1 h t htm
   have htl := total_one cls k t hz
   have htt := HATW.out.tot
   have FO1 : Hid (∀ w', Below wr.heap.size wr w' → Calls Try.prog 21 #[.slice t.a t.l.length t.c, .int .i64 v] w' fun e w'' => e = .returned (.bool (t.l.all (litOk v))) ∧ Below w'.heap.size w' w'') := fun w' hw' =>
    formed_any w' t.a t.c t.l v (by omega) (by omega) (by omega) (((HATW.out.each t htm).to (HBr.out.trans (hw'.mono HBr.out.size))).mono (Nat.le_trans HBr.out.size hw'.size))
   have hltI : (k : Int) < (cls.length : Int) := by omega
   have e3 : IntKind.i64.wrap ((k : Int) + 1) = (k : Int) + 1 := wrapI _ (by omega) (by omega)
   have c0 : W.cell? ⟨tb, tz + k, none⟩ = some (.slice t.a t.l.length t.c) := by have := htc 0 _ rfl; simpa using this
   obtain ⟨tr, HTR⟩ : ∃ r, Hid (t.l.all (litOk v) = r) := ⟨_, rfl⟩
   rw [HTR.out] at FO1
   have HN2 : Hid ((cls.take (k + 1)).all (fun t => t.l.all (litOk v)) = tr) := by
    show _ = _
    rw [HN.out, HA.out, HTR.out]; rfl
   have HX2 : Hid (tr = false → r = false) := fun e => by
    rw [HRR.out, Bool.eq_false_iff]; intro h
    have := HX.out h
    rw [HTR.out, e] at this; cases this
   clear hz htc HTR HN HX HA htl htt htm
   generalize t.l.length = tl at *
   generalize t.a = tA at *
   generalize t.c = tC at *
   have FO : Hid (∀ w', Below wr.heap.size wr w' → Calls Try.prog 21 #[.slice tA tl tC, .int .i64 v] w' fun e w'' => e = .returned (.bool tr) ∧ Below w'.heap.size w' w'') := FO1.out
   have K3 : Hid (∀ w', Below wr.heap.size wr w' → w'.cell? ⟨gx, 0, none⟩ = some (.int .i64 v) ∧ w'.cell? ⟨gx, 1, none⟩ = some (.slice (some ⟨tb, tz, none⟩) cls.length c) ∧ w'.cell? ⟨tb, tz + k, none⟩ = some (.slice tA tl tC)) := fun w' hb => by
    have hb2 := HBr.out.trans (hb.mono HBr.out.size)
    exact ⟨(K2.out w' hb2).1, (K2.out w' hb2).2, (hb2.cell (p := ⟨tb, tz + k, none⟩) htb).trans c0⟩
   clear FO1 c0
   go_wp2_with fail
   clear q0 q1
   (
   refine wp_region_noPanic ?_
   refine wp_region_held_drew (S := (fun w' => w'.cell? ⟨gx, 0, none⟩ = some (.int .i64 v) ∧ w'.cell? ⟨gx, 1, none⟩ = some (.slice (some ⟨tb, tz, none⟩) cls.length c) ∧ w'.cell? ⟨tb, tz + k, none⟩ = some (.slice tA tl tC))) (by kernel_rfl) (by first | assumption | exact K3.out _ (by assumption) | exact K3.out _ (Below.refl _ _) | exact K3.out _ (Below.drew (Below.refl _ _))) (fun hHeld => ?_)
   refine tk 0 ?_
   refine tk 1 ?_
   refine tk 2 ?_
   refine tk 3 ?_
   refine tk 4 ?_
   refine tk 5 ?_
   refine tk 6 ?_
   refine wpAnyH_ready (rs := [7]) (by kernel_rfl) (by simp) ?_
   refine AllReadyH.cons (o := _) rfl (fun K hK => ?_) AllReadyH.nil
   (try simp only [gA, gB, gC])
   go_simp
   go_at_call 21
   refine (FO.out _ (Below.drew (Below.refl _ _))).mono ?_
   rintro e x9 ⟨rfl, hb9⟩
   replace hb9 : Below wr.heap.size wr x9 := (Below.drew (Below.refl wr.heap.size wr)).trans hb9
   go_wp2_with fail
   refine hK.out _ _ (by first | assumption | exact K3.out _ (by assumption) | exact K3.out _ (Below.refl _ _) | exact K3.out _ (Below.drew (Below.refl _ _))) (fun hHeld1 => ?_)
   clear hK K
   try simp only [Act.put, sA, sB, sC]
   refine tk 8 ?_
   refine wpAnyH_done (by kernel_rfl) ?_ _
   refine NoPanic.normal ?_
   )
   have HB9 : Hid (Below W.heap.size W x9) := HBr.out.trans (hb9.mono HBr.out.size)
   clear hb9 FO K3
   try clear hHeld
   try clear hHeld1
   cases tr
   ·obtain rfl := HX2.out rfl
    go_wp2
    go_ret
    exact ⟨rfl, HBW.out.trans (HB9.out.mono HBW.out.size)⟩
   ·go_wp2
    go_roundw
    case measure => simp [intOf]; omega
    case rel => exact ⟨k + 1, by omega, by simp, HN2.out, HB9.out⟩
  ·have hge : ¬ ((k : Int) < (cls.length : Int)) := by omega
   have HF : Hid (r = true) := by
    have := HA.out
    rw [List.take_of_length_le (by omega)] at this
    show _ = _
    rw [HRR.out]; exact this
   clear HA HRR
   go_wp2
   go_ret
   exact ⟨ret_bool HF.out.symm, HBW.out.trans (HBr.out.mono HBW.out.size)⟩
end Go.Proofs.Ytefjicdhccfieaa

set_option maxRecDepth 100000
set_option maxHeartbeats 16000000
namespace Go.Proofs.Ytefjicdhccfieaa
open Go.RowKit
def isT (s : List Int) (l : Int) : Bool := if l < 0 then decide (s.getD l.natAbs 0 < 0) else decide (0 < s.getD l.natAbs 0)
theorem isT_cons (s : List Int) : Cons (fun l => l ≠ 0 ∧ isT s l = true) := by
 rintro l ⟨h0, h1⟩ ⟨_, h2⟩
 unfold isT at h1 h2
 rw [Int.natAbs_neg] at h2
 split at h1 <;> split at h2 <;> simp at h1 h2 <;> omega
def putS (s : List Int) (l : Int) : List Int := s.set l.natAbs (if l < 0 then -1 else 1)
theorem putS_len (s : List Int) (l : Int) : (putS s l).length = s.length := by simp [putS]
theorem isT_put {s : List Int} {l m : Int} (hl : l.natAbs < s.length) (h0 : l ≠ 0) (hm : m ≠ 0) (hn : isT s (-l) = false) : isT (putS s l) m = true ↔ m = l ∨ isT s m = true := by
 by_cases e : m.natAbs = l.natAbs
 ·have hg : (putS s l).getD m.natAbs 0 = if l < 0 then -1 else 1 := by
   rw [e]; unfold putS; rw [List.getD_eq_getElem?_getD, List.getElem?_set_self hl]; rfl
  rcases Int.natAbs_eq_natAbs_iff.1 e with e2 | e2
  ·subst e2
   refine ⟨fun _ => .inl rfl, fun _ => ?_⟩
   unfold isT
   rw [hg]
   split <;> simp_all
  ·subst e2
   refine ⟨fun h => ?_, fun h => ?_⟩
   ·unfold isT at h
    rw [hg] at h
    split at h <;> split at h <;> simp at h <;> omega
   ·rcases h with h | h
    ·omega
    ·rw [h] at hn; cases hn
 ·have hg : (putS s l).getD m.natAbs 0 = s.getD m.natAbs 0 := by
   unfold putS; rw [List.getD_eq_getElem?_getD, List.getElem?_set_ne (Ne.symm e), ← List.getD_eq_getElem?_getD]
  have : isT (putS s l) m = isT s m := by unfold isT; rw [hg]
  rw [this]
  exact ⟨.inr, fun h => h.elim (fun e2 => absurd (by rw [e2]) e) id⟩
def opn (s : List Int) (c : List Int) : Int × Int := c.foldl (fun r m => if isT s (-m) || (decide (0 < r.1) && m == r.2) then r else (r.1 + 1, m)) (0, 0)
theorem opn_next (s : List Int) (c : List Int) (k : Nat) (m : Int) (h : c[k]? = some m) : opn s (c.take (k + 1)) = if isT s (-m) || (decide (0 < (opn s (c.take k)).1) && m == (opn s (c.take k)).2) then opn s (c.take k) else ((opn s (c.take k)).1 + 1, m) := by
 rw [take_next c k m h]
 unfold opn
 rw [List.foldl_append]
 rfl
structure OpnOk (s c : List Int) (r : Int × Int) : Prop where
 nn : 0 ≤ r.1
 le : r.1 ≤ (c.length : Int)
 none : r.1 = 0 → ∀ m, m ∈ c → isT s (-m) = true
 one : 0 < r.1 → r.2 ∈ c ∧ isT s (-r.2) = false
 only : r.1 = 1 → ∀ m, m ∈ c → m ≠ r.2 → isT s (-m) = true
 two : 1 < r.1 → ∃ a b, a ∈ c ∧ b ∈ c ∧ a ≠ b ∧ isT s (-a) = false ∧ isT s (-b) = false
theorem opn_ok (s : List Int) (c : List Int) : OpnOk s c (opn s c) := by
 suffices h : ∀ k, k ≤ c.length → OpnOk s (c.take k) (opn s (c.take k)) by
  have := h c.length (Nat.le_refl _)
  rwa [List.take_length] at this
 intro k
 induction k with
 | zero => intro _; exact ⟨by simp [opn], by simp [opn], fun _ m hm => by simp at hm, fun h => by simp [opn] at h, fun h => by simp [opn] at h, fun h => by simp [opn] at h⟩
 | succ k ih =>
  intro hk
  have ih := ih (by omega)
  obtain ⟨m, hm⟩ := getElem_lt (show k < c.length by omega)
  rw [opn_next s c k m hm, take_next c k m hm]
  generalize opn s (c.take k) = r at *
  generalize c.take k = d at *
  split
  ·rename_i hc
   simp only [Bool.or_eq_true, Bool.and_eq_true, decide_eq_true_eq, beq_iff_eq] at hc
   refine ⟨ih.nn, by have := ih.le; simp; omega, fun h0 x hx => ?_, fun h1 => ?_, fun h1 x hx hne => ?_, fun h2 => ?_⟩
   ·rcases List.mem_append.1 hx with hx | hx
    ·exact ih.none h0 x hx
    ·rw [List.mem_singleton.1 hx]
     rcases hc with hc | hc
     ·exact hc
     ·omega
   ·exact ⟨List.mem_append_left _ (ih.one h1).1, (ih.one h1).2⟩
   ·rcases List.mem_append.1 hx with hx | hx
    ·exact ih.only h1 x hx hne
    ·rw [List.mem_singleton.1 hx] at hne ⊢
     rcases hc with hc | hc
     ·exact hc
     ·exact absurd hc.2 hne
   ·obtain ⟨a, b, h1, h3, h4, h5, h6⟩ := ih.two h2
    exact ⟨a, b, List.mem_append_left _ h1, List.mem_append_left _ h3, h4, h5, h6⟩
  ·rename_i hc
   simp only [Bool.or_eq_true, Bool.and_eq_true, decide_eq_true_eq, beq_iff_eq, not_or, not_and, Bool.not_eq_true] at hc
   have hnn := ih.nn
   refine ⟨by show 0 ≤ r.1 + 1; omega, by have := ih.le; simp; omega, fun h0 => by (have h0' : r.1 + 1 = 0 := h0); omega, fun _ => ⟨by simp, hc.1⟩, fun h1 x hx hne => ?_, fun h2 => ?_⟩
   ·have h0 : r.1 = 0 := by have h1' : r.1 + 1 = 1 := h1; omega
    rcases List.mem_append.1 hx with hx | hx
    ·exact ih.none h0 x hx
    ·exact absurd (List.mem_singleton.1 hx) hne
   ·have h1 : 0 < r.1 := by have h2' : 1 < r.1 + 1 := h2; omega
    exact ⟨r.2, m, List.mem_append_left _ (ih.one h1).1, by simp, fun e => hc.2 h1 e.symm, (ih.one h1).2, hc.1⟩
structure HeldAt (w : World) (hb sb : Nat) (s : List Int) : Prop where
 h : w.cell? ⟨hb, 0, none⟩ = some (.slice (some ⟨sb, 0, none⟩) s.length s.length)
 s : w.heap[sb]? = some (.cells (s.map fun x => Value.int .i64 x).toArray 3 (0, 0))
 hl : hb < w.heap.size
 ne : hb ≠ sb
theorem HeldAt.cell {w : World} {hb sb : Nat} {s : List Int} (h : HeldAt w hb sb s) {i : Nat} {x : Int} (hx : s[i]? = some x) : w.cell? ⟨sb, i, none⟩ = some (.int .i64 x) := by
 simp [World.cell?, h.s, hx]
theorem HeldAt.fz {w : World} {hb sb : Nat} {s : List Int} (h : HeldAt w hb sb s) (i : Nat) : w.frozen? ⟨sb, i, none⟩ = false := by simp [World.frozen?, h.s]
theorem HeldAt.sl {w : World} {hb sb : Nat} {s : List Int} (h : HeldAt w hb sb s) : sb < w.heap.size := by
 have := h.s
 rcases Nat.lt_or_ge sb w.heap.size with h' | h'
 ·exact h'
 ·rw [Array.getElem?_eq_none h'] at this; cases this
theorem HeldAt.to {w w' : World} {hb sb : Nat} {s : List Int} (h : HeldAt w hb sb s) (hbl : Below w.heap.size w w') : HeldAt w' hb sb s :=
 ⟨(hbl.cell (p := ⟨hb, 0, none⟩) h.hl).trans h.h, (hbl.block sb h.sl).trans h.s, Nat.lt_of_lt_of_le h.hl hbl.size, h.ne⟩
theorem is_any (w : World) (hb sb : Nat) (s : List Int) (l : Int) (h : HeldAt w hb sb s) (hl : l.natAbs < s.length) (hs : s.length ≤ 200000) :
  Calls Try.prog 46 #[.pointer (some ⟨hb, 0, none⟩), .int .i64 l] w fun e w' => e = .returned (.bool (isT s l)) ∧ w' = w := by
 obtain ⟨x, hx⟩ := getElem_lt hl
 have c0 := h.h
 have c1 := h.cell hx
 have HI : Hid (isT s l = if l < 0 then decide (x < 0) else decide (0 < x)) := by
  show isT s l = _
  unfold isT
  rw [List.getD_eq_getElem?_getD, hx]; rfl
 clear h
 obtain ⟨n, hn⟩ : ∃ n, n = l.natAbs := ⟨_, rfl⟩
 rw [← hn] at c1 hl
 generalize s.length = sn at *
 by_cases hneg : l < 0
 ·have hln : -l = (n : Int) := by omega
  have HL := hidden hln
  have e1 : IntKind.i64.wrap (-l) = (n : Int) := by rw [hln]; exact wrapI _ (by omega) (by omega)
  have hlt : (n : Int) < (sn : Int) := by omega
  have HI2 : Hid (isT s l = decide (x < 0)) := by show _ = _; rw [HI.out, if_pos hneg]
  clear hn hln hx
  go_enter Try.func46, Try.ntmps46
  go_wp2
  go_ret
  exact ⟨ret_bool (by rw [HI2.out]), rfl⟩
 ·have hln : l = (n : Int) := by omega
  have HI2 : Hid (isT s l = decide (0 < x)) := by show _ = _; rw [HI.out, if_neg hneg]
  clear hn hx HI
  subst hln
  have hlt : (n : Int) < (sn : Int) := by omega
  go_enter Try.func46, Try.ntmps46
  go_wp2
  go_ret
  exact ⟨ret_bool (by rw [HI2.out]), rfl⟩
end Go.Proofs.Ytefjicdhccfieaa
