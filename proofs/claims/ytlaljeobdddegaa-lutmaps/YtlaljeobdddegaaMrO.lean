import Derived.Test.YtlaljeobdddegaaMrN
import Derived.Test.YtlaljeobdddegaaMrP
namespace Go.Proofs.Ytlaljeobdddegaa
open Go.RowKit Mp

set_option maxRecDepth 100000 in
set_option maxHeartbeats 8000000 in
theorem atL_any (w : World) (b o eb ce n ca m v s e : Nat) (la : Option Addr) (c0 : w.cell? ⟨b, o, none⟩ = some (.slice la n ca)) (c1 : w.cell? ⟨b, o + 1, none⟩ = some (.slice (some ⟨eb, 0, none⟩) m ce)) (hv : v < m) (hm : m ≤ 1000000) (ce1 : w.cell? ⟨eb, v, none⟩ = some (.int .i64 (e : Nat))) (cs0 : v = 0 → s = 0) (cs1 : 0 < v → w.cell? ⟨eb, v - 1, none⟩ = some (.int .i64 (s : Nat))) (hse : s ≤ e) (hec : e ≤ ca) :
    Calls Try.prog 38 #[.pointer (some ⟨b, o, none⟩), .int .i64 (v : Nat)] w fun x w' => x = .returned (sliced la s e e 1) ∧ Bl w w' := by
  obtain ⟨R, ER⟩ := exh (sliced la s e e 1)
  have RS : ∀ wx : World, (Instr.sliceAt 24 (.slice la n ca) (some (.int .i64 (s : Int))) (some (.int .i64 (e : Int))) (some (.int .i64 (e : Int)))).run Try.prog wx = .ok R wx := fun wx => by
    rw [run_sliceAt_slice wx _ _ _ _ _ int_u, run_slice_lhm wx _ _ n ca int_u .i64 .i64 .i64 s e e (by omega) (by omega) (Int.le_refl _) (by omega), int_s, ER.out]
    rfl
  have hvI : (v : Int) < (m : Int) := by omega
  rw [← ER.out]
  by_cases h0 : v = 0
  · have hs0 := cs0 h0
    subst h0
    subst hs0
    have hz : ¬ (0 : Int) < 0 := by omega
    have RS0 : ∀ wx : World, (Instr.sliceAt 24 (.slice la n ca) (some (.int .i64 0)) (some (.int .i64 (e : Int))) (some (.int .i64 (e : Int)))).run Try.prog wx = .ok R wx := RS
    clear cs0 cs1 RS
    go_enter Try.func38, Try.ntmps38
    go_wp2_with fail
    refine wp_region_noPanic ?_
    refine wp_region_held_drew (S := fun wz => wz.cell? ⟨b, o + 1, none⟩ = some (.slice (some ⟨eb, 0, none⟩) m ce) ∧ wz.cell? ⟨eb, 0, none⟩ = some (.int .i64 (e : Int))) (by kernel_rfl) (by exact ⟨c1, ce1⟩) (fun hHeld => ?_)
    refine tk 0 ?_
    refine tk 1 ?_
    refine tk 2 ?_
    refine tk 3 ?_
    refine tk 4 ?_
    refine tk 5 ?_
    refine tk 6 ?_
    refine tk 7 ?_
    refine tk 8 ?_
    refine wpAnyH_done (by kernel_rfl) ?_ _
    refine NoPanic.normal ?_
    go_wp2
    go_ret
    exact ⟨rfl, Below.drew (Below.refl _ _)⟩
  · have c3 := cs1 (by omega)
    have hz : (0 : Int) < (v : Int) := by omega
    have e2 : IntKind.i64.wrap ((v : Int) - 1) = ((v - 1 : Nat) : Int) := by rw [wrapI _ (by omega) (by omega)]; omega
    have hz2 : ((v - 1 : Nat) : Int) < (m : Int) := by omega
    obtain ⟨v1, Ev1⟩ := exh (v - 1)
    rw [← Ev1.out] at e2 c3 hz2
    clear cs0 cs1 h0
    go_enter Try.func38, Try.ntmps38
    go_wp2_with fail
    refine wp_region_noPanic ?_
    refine wp_region_held_drew (S := fun wz => wz.cell? ⟨b, o + 1, none⟩ = some (.slice (some ⟨eb, 0, none⟩) m ce) ∧ wz.cell? ⟨eb, v, none⟩ = some (.int .i64 (e : Int))) (by kernel_rfl) (by exact ⟨c1, ce1⟩) (fun hHeld => ?_)
    refine tk 0 ?_
    refine tk 1 ?_
    refine tk 2 ?_
    refine tk 3 ?_
    refine tk 4 ?_
    refine tk 5 ?_
    refine tk 6 ?_
    refine tk 7 ?_
    refine tk 8 ?_
    refine wpAnyH_done (by kernel_rfl) ?_ _
    refine NoPanic.normal ?_
    go_wp2
    go_ret
    exact ⟨rfl, Below.drew (Below.refl _ _)⟩
theorem own_row0 {w : World} {C n : Nat} {v : Value} {l : List Nat} (h : w.ownsRow C 3 1 v n (l.map nV)) : n = l.length ∧ ((v = .slice none 0 0 ∧ l = []) ∨ ∃ g cap, v = .slice (some ⟨g, 0, none⟩) n cap ∧ n ≤ cap ∧ ∀ (k y : Nat), l[k]? = some y → w.cell? ⟨g, k, none⟩ = some (.int .i64 (y : Nat))) := by
  have hl : n = l.length := by have := h.1; simp at this; omega
  refine ⟨hl, ?_⟩
  rcases h.2 with ⟨rfl, h0⟩ | ⟨g, cap, cur, rfl, _, hg, _, hnc, h3, h4⟩
  · subst h0
    exact Or.inl ⟨rfl, List.eq_nil_of_length_eq_zero hl.symm⟩
  · refine Or.inr ⟨g, cap, rfl, ?_, fun k y hy => ?_⟩
    · have h5 := congrArg List.length h4
      simp at h5
      omega
    · have hk := (List.getElem?_eq_some_iff.1 hy).1
      have h5 : (l.map nV)[k]? = some (nV y) := by rw [List.getElem?_map, hy]; rfl
      rw [← h4, List.getElem?_take_of_lt (by omega), Array.getElem?_toList] at h5
      simp [World.cell?, hg, h5, nV]
/-- the leaves of a table that is chosen -/
theorem cvat_any {C : Nat} {w : World} {D : ChS} {U : Nat → Nat} {gs : List Nat} {Ls : List (List Nat)} {bs : List Nat} {gv lv ev bv : Value} (h : CvAt C w D U gs Ls bs gv lv ev bv) {i : Nat} {ls : List Nat} (hi : Ls[i]? = some ls) (hm : Ls.length ≤ 1000000) :
    Calls Try.prog 38 #[.pointer (some ⟨D.cb, 5, none⟩), .int .i64 (i : Nat)] w fun x w' => (∃ a, x = .returned (.slice a ls.length ls.length) ∧ NumR w a ls) ∧ Bl w w' := by
  have hil := (List.getElem?_eq_some_iff.1 hi).1
  have hd : Ls.getD i [] = ls := by rw [List.getD_eq_getElem?_getD, hi]; rfl
  have hsn := stO_next hil
  rw [hd] at hsn
  obtain ⟨_, he⟩ := own_row0 h.oe
  have en : ∀ k, k < Ls.length → (endsL Ls)[k]? = some (stO Ls (k + 1)) := fun k hk => by
    unfold endsL
    rw [List.getElem?_map, List.getElem?_range hk]; rfl
  rcases he with ⟨_, h0⟩ | ⟨eb, ce, rfl, _, hec⟩
  · have := en i hil
    rw [h0] at this; simp at this
  · obtain ⟨_, hl⟩ := own_row0 h.ol
    obtain ⟨la, ca, elv, hcap, hnum⟩ : ∃ la ca, lv = .slice la Ls.flatten.length ca ∧ Ls.flatten.length ≤ ca ∧ ∀ (k y : Nat), Ls.flatten[k]? = some y → ∃ g, la = some ⟨g, 0, none⟩ ∧ w.cell? ⟨g, k, none⟩ = some (.int .i64 (y : Nat)) := by
      rcases hl with ⟨rfl, h0⟩ | ⟨g, cap, rfl, h1, h2⟩
      · exact ⟨none, 0, by rw [h0]; rfl, by rw [h0]; exact Nat.le_refl _, fun k y hy => by rw [h0] at hy; simp at hy⟩
      · exact ⟨_, cap, rfl, h1, fun k y hy => ⟨g, rfl, h2 k y hy⟩⟩
    subst elv
    have c0 := h.ch.bk.cell (i := 5) rfl
    have c1 := h.ch.bk.cell (i := 6) rfl
    have := atL_any w D.cb 5 eb ce Ls.flatten.length ca Ls.length i (stO Ls i) (stO Ls (i + 1)) la c0 c1 hil hm (hec i _ (en i hil)) (fun e => by rw [e]; exact stO_zero Ls) (fun hp => by
      have h1 := hec (i - 1) _ (en (i - 1) (by omega))
      rwa [show i - 1 + 1 = i by omega] at h1) (by omega) (Nat.le_trans (stO_le Ls _) hcap)
    refine this.mono ?_
    rintro e w' ⟨rfl, hb⟩
    refine ⟨⟨if stO Ls (i + 1) = stO Ls i then la else la.map (·.add (stO Ls i * 1)), ?_, fun k x hx => ?_⟩, hb⟩
    · unfold sliced
      rw [show stO Ls (i + 1) - stO Ls i = ls.length by omega]
    · have hk := (List.getElem?_eq_some_iff.1 hx).1
      rw [if_neg (by omega)]
      obtain ⟨g, rfl, hc⟩ := hnum _ _ (flat_at hil (by rw [hd]; exact hx))
      refine ⟨g, stO Ls i, ?_, hc⟩
      rw [Option.map_some, addL, Nat.zero_add, Nat.mul_one]
/-- what stands at first -/
theorem LayI.start {P : (Nat → Bool) → Prop} (hP : ∀ val, P val → val 0 = false) {F n : Nat} (hF : 1 ≤ F) (U : Nat → Nat) (wd : Nat → Bool) {N : NetL} (hn : 2 + N.ni + (N.init.length : Int) = (F : Int) + 1) (ht : N.tabs = []) : LayI P F n U wd N (sgA F F) fun u => u < 1 := by
  have h0 : sgA F F 0 = 0 := rfl
  have h1 : sgA F F 1 = 1 := rfl
  have hs : ∀ v, 1 ≤ v → v < F → sgA F F (2 * v) = 1 + (v : Int) := fun v a b => by
    unfold sgA; rw [if_neg (by omega), if_pos (by omega)]; omega
  have ds : ∀ s : Int, (L.dsN (F + 1) []).getD s.toNat 0 = 0 := fun s => by
    show (List.replicate (F + 1) (0 : Int)).getD s.toNat 0 = 0
    rw [List.getD_eq_getElem?_getD, List.getElem?_replicate]
    split <;> rfl
  have dp : ∀ l, (0 : Int) ≤ dptL F U l := fun l => by unfold dptL; split <;> omega
  refine ⟨hn, h0, h1, hs, fun l hl hne => ?_, fun v hv => ?_, fun i d hd => by rw [ht] at hd; simp at hd⟩
  · rw [ht]
    by_cases h2 : l < 2
    · have e : sgA F F l = (l : Int) := by unfold sgA; rw [if_pos h2]
      rw [e]
      refine ⟨by omega, by simp; omega, fun base val hb hp => ?_, by rw [ds]; exact dp l⟩
      show L.sV base (l : Int) = _
      unfold L.sV litW
      rw [show l / 2 = 0 by omega, hP val hp, Int.toNat_natCast]
      rcases (by omega : l = 0 ∨ l = 1) with rfl | rfl
      · rw [hb.b0]; rfl
      · rw [hb.b1]; rfl
    · have e : l % 2 = 0 ∧ l / 2 < F := by
        unfold sgA at hne
        rw [if_neg h2] at hne
        by_cases h3 : l % 2 = 0 ∧ l / 2 < F ∧ l / 2 < F
        · exact ⟨h3.1, h3.2.1⟩
        · rw [if_neg h3] at hne; exact absurd rfl hne
      have e2 := hs (l / 2) (by omega) e.2
      rw [show 2 * (l / 2) = l by omega] at e2
      rw [e2]
      refine ⟨by omega, by simp; omega, fun base val hb hp => ?_, by rw [ds]; exact dp l⟩
      show L.sV base _ = _
      unfold L.sV litW
      rw [show (1 + ((l / 2 : Nat) : Int)).toNat = l / 2 + 1 by omega, hb.src (l / 2) (by omega) e.2, e.1]
      simp
  · obtain rfl : v = 0 := by omega
    exact ⟨Or.inl (by rw [Nat.mul_zero, h0]; decide), fun _ => by rw [Nat.mul_zero, h0]; decide, fun _ => by rw [Nat.mul_zero, Nat.zero_add, h1]; decide⟩
theorem LayI.net {P : (Nat → Bool) → Prop} {F n : Nat} {U : Nat → Nat} {wd : Nat → Bool} {N N' : NetL} {sg : Nat → Int} {Y : Nat → Prop} (h : LayI P F n U wd N sg Y) (h1 : N'.ni = N.ni) (h2 : N'.init = N.init) (h3 : N'.tabs = N.tabs) : LayI P F n U wd N' sg Y :=
  ⟨by rw [h1, h2]; exact h.ni, h.s0, h.s1, h.src, by rw [h3]; exact h.sig, h.had, by rw [h3]; exact h.ok⟩
end Go.Proofs.Ytlaljeobdddegaa
