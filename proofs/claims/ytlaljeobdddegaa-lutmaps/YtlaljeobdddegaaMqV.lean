import Derived.Test.YtlaljeobdddegaaMqU
import Derived.Test.YtlaljeobdddegaaMpG
import Derived.Test.YtlaljeobdddegaaAgFi
namespace Go.Proofs.Ytlaljeobdddegaa
open Go.RowKit Mp

def grG {G : GrD} {ni n : Nat} (h : FineG G ni n) : Gr := grOf (firstN G) G.ands (by unfold firstN; omega) h.ands
def iaG (G : GrD) (v : Nat) : Bool := match G.ands[v - firstN G]? with | some d => decide (d.x % 2 = 1) | none => false
def ibG (G : GrD) (v : Nat) : Bool := match G.ands[v - firstN G]? with | some d => decide (d.y % 2 = 1) | none => false
def Fd {G : GrD} {ni n : Nat} (h : FineG G ni n) (k : Nat) : List (List Ct) × List Nat := foundN (grG h) (iaG G) (ibG G) k
theorem fd_ok {G : GrD} {ni n : Nat} (h : FineG G ni n) {k : Nat} (hk : k ≤ G.ands.length) : FOk (grG h) (iaG G) (ibG G) n k (Fd h k) := found_ok _ _ _ n k (by have := h.all; show firstN G + k ≤ n; omega)
theorem fd_len {G : GrD} {ni n : Nat} (h : FineG G ni n) {k : Nat} (hk : k ≤ G.ands.length) : (Fd h k).1.length = firstN G + k ∧ (Fd h k).2.length = firstN G + k := ⟨(fd_ok h hk).l1, (fd_ok h hk).l2⟩
theorem Mp.CutsP.dlev {G : Gr} {N : Nat} {K : Nat → List (List Nat)} {dp : Nat → Nat} (h : CutsP G N K dp) (v : Nat) (hv : v < N) : dp v ≤ v := by
  induction v using Nat.strongRecOn with
  | _ v ih =>
    by_cases hg : v < G.first
    · rw [h.d0 v hg]; exact Nat.zero_le _
    · obtain ⟨k, hk, he⟩ := h.dex v hv (by omega)
      have hl := ((h.sound v hv).2.2 k (by omega) hk).2.2
      have : mxC dp k ≤ v - 1 := (mxC_iff _ _ _).2 (fun u hu => by have h1 := hl u hu; have h2 := ih u h1 (by omega); omega)
      have := G.pos
      omega
theorem fd_fin {G : GrD} {ni n : Nat} (h : FineG G ni n) {k : Nat} (hk : k ≤ G.ands.length) : FinF (Fd h k).1 ∧ (∀ v, v < firstN G + k → ∀ c, c ∈ (Fd h k).1.getD v [] → c.dep ≤ 60000) ∧ (∀ d, d ∈ (Fd h k).2 → d ≤ 60000) := by
  have ok := fd_ok h hk
  have l1 := (fd_len h hk).1
  have l2 := (fd_len h hk).2
  have hle := h.le
  have hall := h.all
  have hdl : ∀ v, v < firstN G + k → dOf (Fd h k).2 v ≤ v := fun v hv => ok.cp.dlev v hv
  refine ⟨⟨fun v hv hn => ?_, fun v hv c hc => ?_, fun v hv => ok.few (by rw [l1] at hv; exact hv)⟩, fun v hv c hc => ?_, fun d hd => ?_⟩
  · rw [l1] at hv
    have e : KOf (Fd h k).1 v = [] := by unfold KOf; rw [hn]; rfl
    by_cases h0 : v = 0
    · rw [h0, ok.cp.zero] at e; cases e
    · have := (ok.cp.sound v hv).2.1 (by omega)
      rw [e] at this; cases this
  · rw [l1] at hv
    obtain ⟨h1, h2⟩ := ok.ok v hv c hc
    obtain ⟨a1, a2, _, a4⟩ := (ok.cp.sound v hv).1 c.lv (List.mem_map.2 ⟨c, hc, rfl⟩)
    exact ⟨a1, ⟨a2, fun u hu => by have := a4 u hu; rw [l1]; omega⟩, h1.lt⟩
  · obtain ⟨_, h2⟩ := ok.ok v hv c hc
    obtain ⟨_, _, _, a4⟩ := (ok.cp.sound v hv).1 c.lv (List.mem_map.2 ⟨c, hc, rfl⟩)
    rw [h2]
    exact (mxC_iff _ _ _).2 (fun u hu => by have h1 := a4 u hu; have := hdl u (by omega); omega)
  · obtain ⟨i, hi⟩ := List.getElem?_of_mem hd
    have hlt := (List.getElem?_eq_some_iff.1 hi).1
    have := hdl i (by omega)
    unfold dOf at this
    rw [List.getD_eq_getElem?_getD, hi] at this
    simp only [Option.getD_some] at this
    omega
theorem flat_few {α : Type} (m : Nat) : ∀ (Cs : List (List α)), (∀ v, v < Cs.length → (Cs.getD v []).length ≤ m) → Cs.flatten.length ≤ m * Cs.length
  | [], _ => by simp
  | a :: t, h => by
    have h1 := flat_few m t (fun v hv => by have := h (v + 1) (by rw [List.length_cons]; omega); simpa using this)
    have h2 := h 0 (by simp)
    rw [List.flatten_cons, List.length_append, List.length_cons, Nat.mul_add]
    have h3 : a.length ≤ m := by simpa using h2
    omega
theorem fd_flat {G : GrD} {ni n : Nat} (h : FineG G ni n) {k : Nat} (hk : k ≤ G.ands.length) : (Fd h k).1.flatten.length ≤ 20000000 := by
  have := flat_few 257 (Fd h k).1 (fd_fin h hk).1.few
  rw [(fd_len h hk).1] at this
  have h1 := h.le
  have h2 := h.all
  omega
theorem fd_next {G : GrD} {ni n : Nat} (h : FineG G ni n) {k : Nat} {d : AndD} (hd : G.ands[k]? = some d) : Fd h (k + 1) = ((Fd h k).1 ++ [⟨[firstN G + k], 1 + minD (cutsT (KOf (Fd h k).1) (decide (d.x % 2 = 1)) (decide (d.y % 2 = 1)) ((Fd h k).1.getD (d.x / 2).toNat []) ((Fd h k).1.getD (d.y / 2).toNat [])), 43690⟩ :: cutsT (KOf (Fd h k).1) (decide (d.x % 2 = 1)) (decide (d.y % 2 = 1)) ((Fd h k).1.getD (d.x / 2).toNat []) ((Fd h k).1.getD (d.y / 2).toNat [])], (Fd h k).2 ++ [1 + minD (cutsT (KOf (Fd h k).1) (decide (d.x % 2 = 1)) (decide (d.y % 2 = 1)) ((Fd h k).1.getD (d.x / 2).toNat []) ((Fd h k).1.getD (d.y / 2).toNat []))]) := by
  have hk := (List.getElem?_eq_some_iff.1 hd).1
  have l1 := (fd_len h (Nat.le_of_lt hk)).1
  obtain ⟨ea, eb⟩ := grA_at (first := firstN G) hd
  have ei : iaG G (firstN G + k) = decide (d.x % 2 = 1) := by unfold iaG; rw [show firstN G + k - firstN G = k by omega, hd]
  have ej : ibG G (firstN G + k) = decide (d.y % 2 = 1) := by unfold ibG; rw [show firstN G + k - firstN G = k by omega, hd]
  have e1 : (grG h).a (firstN G + k) = (d.x / 2).toNat := ea
  have e2 : (grG h).b (firstN G + k) = (d.y / 2).toNat := eb
  have en : newT (grG h) (iaG G) (ibG G) (Fd h k).1 = cutsT (KOf (Fd h k).1) (decide (d.x % 2 = 1)) (decide (d.y % 2 = 1)) ((Fd h k).1.getD (d.x / 2).toNat []) ((Fd h k).1.getD (d.y / 2).toNat []) := by
    unfold newT; rw [l1, ei, ej, e1, e2]
  show stepF (grG h) (iaG G) (ibG G) (Fd h k) = _
  unfold stepF
  rw [en, l1]
theorem fd_ne {G : GrD} {ni n : Nat} (h : FineG G ni n) {k : Nat} {d : AndD} (hd : G.ands[k]? = some d) : cutsT (KOf (Fd h k).1) (decide (d.x % 2 = 1)) (decide (d.y % 2 = 1)) ((Fd h k).1.getD (d.x / 2).toNat []) ((Fd h k).1.getD (d.y / 2).toNat []) ≠ [] ∧ (∀ c, c ∈ cutsT (KOf (Fd h k).1) (decide (d.x % 2 = 1)) (decide (d.y % 2 = 1)) ((Fd h k).1.getD (d.x / 2).toNat []) ((Fd h k).1.getD (d.y / 2).toNat []) → c.dep ≤ 60000) ∧ (cutsT (KOf (Fd h k).1) (decide (d.x % 2 = 1)) (decide (d.y % 2 = 1)) ((Fd h k).1.getD (d.x / 2).toNat []) ((Fd h k).1.getD (d.y / 2).toNat [])).length ≤ 256 := by
  have hk := (List.getElem?_eq_some_iff.1 hd).1
  have l1 := (fd_len h (Nat.le_of_lt hk)).1
  have nx := fd_next h hd
  have fn := fd_fin h (show k + 1 ≤ G.ands.length by omega)
  have hg : (Fd h (k + 1)).1.getD (firstN G + k) [] = ⟨[firstN G + k], 1 + minD (cutsT (KOf (Fd h k).1) (decide (d.x % 2 = 1)) (decide (d.y % 2 = 1)) ((Fd h k).1.getD (d.x / 2).toNat []) ((Fd h k).1.getD (d.y / 2).toNat [])), 43690⟩ :: cutsT (KOf (Fd h k).1) (decide (d.x % 2 = 1)) (decide (d.y % 2 = 1)) ((Fd h k).1.getD (d.x / 2).toNat []) ((Fd h k).1.getD (d.y / 2).toNat []) := by
    rw [nx]
    have := getD_snoc (Fd h k).1 (⟨[firstN G + k], 1 + minD (cutsT (KOf (Fd h k).1) (decide (d.x % 2 = 1)) (decide (d.y % 2 = 1)) ((Fd h k).1.getD (d.x / 2).toNat []) ((Fd h k).1.getD (d.y / 2).toNat [])), 43690⟩ :: cutsT (KOf (Fd h k).1) (decide (d.x % 2 = 1)) (decide (d.y % 2 = 1)) ((Fd h k).1.getD (d.x / 2).toNat []) ((Fd h k).1.getD (d.y / 2).toNat [])) []
    rw [l1] at this
    exact this
  refine ⟨?_, fun c hc => fn.2.1 (firstN G + k) (by omega) c (by rw [hg]; exact List.mem_cons_of_mem _ hc), ?_⟩
  · have ok := fd_ok h (Nat.le_of_lt hk)
    have := (newT_spec ok (by have := h.all; show firstN G + k < n; omega)).2.1
    have e : newT (grG h) (iaG G) (ibG G) (Fd h k).1 = cutsT (KOf (Fd h k).1) (decide (d.x % 2 = 1)) (decide (d.y % 2 = 1)) ((Fd h k).1.getD (d.x / 2).toNat []) ((Fd h k).1.getD (d.y / 2).toNat []) := by
      obtain ⟨ea, eb⟩ := grA_at (first := firstN G) hd
      have ei : iaG G (firstN G + k) = decide (d.x % 2 = 1) := by unfold iaG; rw [show firstN G + k - firstN G = k by omega, hd]
      have ej : ibG G (firstN G + k) = decide (d.y % 2 = 1) := by unfold ibG; rw [show firstN G + k - firstN G = k by omega, hd]
      have e1 : (grG h).a (firstN G + k) = (d.x / 2).toNat := ea
      have e2 : (grG h).b (firstN G + k) = (d.y / 2).toNat := eb
      unfold newT; rw [l1, ei, ej, e1, e2]
    rw [← e]; exact this
  · have := fn.1.few (firstN G + k) (by rw [(fd_len h (show k + 1 ≤ G.ands.length by omega)).1]; omega)
    rw [hg, List.length_cons] at this
    omega
/-- what has grown can be read -/
theorem FnB.fin {w : World} {fb : Nat} {Cs : List (List Ct)} {ds : List Nat} (h : FnB w fb Cs ds) (hne : Cs ≠ []) (hne2 : Cs.flatten ≠ []) (lv4 : ∀ cs, cs ∈ Cs → ∀ c, c ∈ cs → c.lv.length ≤ 4) : ∃ S : FnS, S.fb = fb ∧ FinR w S Cs ∧ FnLow w.heap.size S ∧ (∃ db cd, w.cell? ⟨fb, 2, none⟩ = some (.slice (some ⟨db, 0, none⟩) ds.length cd) ∧ fb < db ∧ ∀ v d, ds[v]? = some d → w.cell? ⟨db, v, none⟩ = some (.int .i64 (d : Nat))) ∨ ds = [] := by
  obtain ⟨av, ev, dv, h1, h2, h3, _⟩ := h.ex
  have hfl := h1.lt
  rcases h2.oa.2 with ⟨_, e⟩ | ⟨ab, ca, cura, rfl, ga, ha, la, _, sa, ta⟩
  · exact absurd (List.eq_nil_of_length_eq_zero e) hne2
  rcases h2.oe.2 with ⟨_, e⟩ | ⟨eb, ce, cure, rfl, ge, he, le, _, se, te⟩
  · exact absurd (List.eq_nil_of_length_eq_zero e) hne
  have hal := (Array.getElem?_eq_some_iff.1 ha).1
  have hel := (Array.getElem?_eq_some_iff.1 he).1
  rcases h3.2 with ⟨_, e⟩ | ⟨db, cd, curd, rfl, gd, hd, ld, _, sd, td⟩
  · exact ⟨⟨fb, ab, ca, eb, ce⟩, Or.inr (List.eq_nil_of_length_eq_zero e)⟩
  · refine ⟨⟨fb, ab, ca, eb, ce⟩, Or.inl ⟨rfl, ⟨h1.cell (i := 0) rfl, h1.cell (i := 1) rfl, hfl, hel, la, fun k c hc => ?_, fun v hv => ?_, by have := h2.few; omega, h2.num, lv4⟩, ⟨hfl, hal, hel⟩, db, cd, h1.cell (i := 2) rfl, by omega, fun v d hdv => ?_⟩⟩
    · refine CtAt.of hal (fun j v hv => ?_)
      have h5 := flC_at hc hv
      have h6 := (List.getElem?_eq_some_iff.1 h5).1
      rw [flC_len] at h6
      rw [← ta, List.getElem?_take_of_lt h6, Array.getElem?_toList] at h5
      simp [World.cell?, ha, h5]
    · have h5 : ((endsL Cs).map nV)[v]? = some (nV (stO Cs (v + 1))) := by
        unfold endsL
        rw [List.getElem?_map, List.getElem?_map, List.getElem?_range hv]; rfl
      rw [← te, List.getElem?_take_of_lt (by omega), Array.getElem?_toList] at h5
      simp [World.cell?, he, h5, nV]
    · have hlt := (List.getElem?_eq_some_iff.1 hdv).1
      have h5 : (ds.map nV)[v]? = some (nV d) := by rw [List.getElem?_map, hdv]; rfl
      rw [← td, List.getElem?_take_of_lt (by omega), Array.getElem?_toList] at h5
      simp [World.cell?, hd, h5, nV]
set_option maxRecDepth 100000 in
set_option maxHeartbeats 8000000 in
theorem first_any (w : World) (p : Nat) (S : GrS) (G : GrD) (ni n : Nat) (hF : FineG G ni n) (h : BoxAt w p S G) :
    Calls Try.prog 35 #[.pointer (some ⟨p, 0, none⟩)] w fun e w' => e = .returned (.int .i64 (firstN G : Nat)) ∧ Bl w w' := by
  have h1 := hF.ins
  have h2 := hF.first
  have h3 := hF.le
  have h4 := hF.all
  obtain ⟨lt, c0, c1, c2, c3⟩ := h
  rw [h1] at c0
  have e1 : IntKind.i64.wrap (1 + (ni : Int)) = 1 + (ni : Int) := wrapI _ (by omega) (by omega)
  have e2 : IntKind.i64.wrap (1 + (ni : Int) + (G.lats.length : Int)) = (firstN G : Int) := by rw [wrapI _ (by omega) (by omega)]; omega
  have HF := hidden h2
  generalize firstN G = f at *
  generalize G.lats.length = nl at *
  clear h1 h2 h3 h4 hF c2 c3
  go_enter Try.func35, Try.ntmps35
  go_wp2_with fail
  refine wp_region_noPanic ?_
  refine wp_region_held_drew (S := fun wz => wz.cell? ⟨p, 0, none⟩ = some (.int .i64 (ni : Int)) ∧ wz.cell? ⟨p, 1, none⟩ = some (.slice S.a1 nl S.c1)) (by kernel_rfl) (by exact ⟨c0, c1⟩) (fun hHeld => ?_)
  refine tk 0 ?_
  refine tk 1 ?_
  refine tk 2 ?_
  refine tk 3 ?_
  refine tk 4 ?_
  refine tk 5 ?_
  refine tk 6 ?_
  refine tk 7 ?_
  refine tk 8 ?_
  refine tk 9 ?_
  refine tk 10 ?_
  refine tk 11 ?_
  refine wpAnyH_done (by kernel_rfl) ?_ _
  refine NoPanic.normal ?_
  go_wp2
  go_ret
  exact ⟨rfl, Below.drew (Below.refl _ _)⟩
end Go.Proofs.Ytlaljeobdddegaa
