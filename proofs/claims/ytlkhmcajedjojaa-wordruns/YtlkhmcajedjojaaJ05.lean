import Derived.Test.YtlkhmcajedjojaaJ03
import Derived.Test.YtlkhmcajedjojaaJ04
import Derived.Deep.RegionHeldLaw
import Derived.Deep.AppendLies
namespace Go.Proofs.Ytlkhmcajedjojaa
open Go.RowKit

theorem sum_take (ws : List Int) (k : Nat) (hk : k < ws.length) : (ws.take (k + 1)).sum = (ws.take k).sum + at0 ws k := by
  rw [List.take_add_one, List.sum_append, at0, List.getElem?_eq_getElem hk]
  simp
theorem sum_bound (ws : List Int) (h : ∀ x, x ∈ ws → 1 ≤ x ∧ x ≤ 32) (k : Nat) : 0 ≤ (ws.take k).sum ∧ (ws.take k).sum ≤ 32 * (k : Int) := by
  induction ws generalizing k with
  | nil => simp; omega
  | cons a l ih =>
    cases k with
    | zero => simp
    | succ k =>
      have := ih (fun x hx => h x (List.mem_cons_of_mem _ hx)) k
      have := h a List.mem_cons_self
      simp only [List.take_succ_cons, List.sum_cons]; push_cast; omega

set_option maxHeartbeats 4000000 in
theorem fits_cat (w : World) (width num : Int) (aa : Option Addr) (al ac : Nat) (b o : Nat) (hb : b < w.heap.size) (ws : List Int) (cw : Nat) (hws : Hid (∀ x, x ∈ ws → 1 ≤ x ∧ x ≤ 32)) (hl : ws.length < big)
    (hc : Hid (∀ i, i < ws.length → w.cell? ⟨b, o + i, none⟩ = some (.int .i64 (at0 ws i)))) :
    Calls Try.prog 31 #[.agg #[.int .i64 7, .int .i64 width, .int .u64 num, .slice aa al ac], .slice (some ⟨b, o, none⟩) ws.length cw] w fun e w' => e = .returned (.bool (decide (ws.sum = width))) ∧ Below w.heap.size w w' := by
  have hl' : (ws.length : Int) < 17592186044416 := by have := hl; simp only [big] at this; omega
  clear hl
  go_enter Try.func31, Try.ntmps31
  go_wp2_with fail
  generalize hW : w.alloc (.cells #[.int .i64 7, .int .i64 width, .int .u64 num, .slice aa al ac] 41) = W
  have HB : Hid (Below w.heap.size w W) := by rw [← hW]; exact (Below.refl _ _).alloc (Nat.le_refl _) _
  have q1 : W.cell? ⟨w.heap.size, 1, none⟩ = some (.int .i64 width) := by rw [← hW]; simp
  have HC : Hid (∀ i, i < ws.length → W.cell? ⟨b, o + i, none⟩ = some (.int .i64 (at0 ws i))) := fun i hi => (HB.out.cell (p := ⟨b, o + i, none⟩) hb).trans (hc.out i hi)
  clear hW
  go_loopw [5, 6] (fun s i w' => ∃ (k : Nat) (t : Int), k ≤ ws.length ∧ i = .int .i64 k ∧ s = .int .i64 t ∧ Hid (t = (ws.take k).sum) ∧ w' = W) (fun _ i _ => ws.length - (intOf i).toNat)
  case atStart => exact ⟨0, 0, Nat.zero_le _, rfl, rfl, by show _ = _; simp, rfl⟩
  case round =>
    obtain ⟨k, t, hk, rfl, rfl, HT, rfl⟩ := hrel
    have ht := sum_bound ws hws.out k
    rw [← HT.out] at ht
    by_cases hlt : k < ws.length
    · have c := HC.out k hlt
      have hx := hws.out (at0 ws k) (by simp [at0, List.getElem?_eq_getElem hlt])
      have hs := sum_take ws k hlt
      generalize at0 ws k = x at c hx hs
      have HS : Hid ((ws.take (k + 1)).sum = t + x) := by show _ = _; rw [hs, HT.out]
      clear hs HT
      have hltI : (k : Int) < (ws.length : Int) := by omega
      have e1 : IntKind.i64.wrap (t + x) = t + x := wrapI _ (by omega) (by omega)
      have e2 : IntKind.i64.wrap ((k : Int) + 1) = (k : Int) + 1 := wrapI _ (by omega) (by omega)
      go_wp2
      go_roundw
      case measure => simp [intOf]; omega
      case rel => exact ⟨k + 1, t + x, by omega, by simp, rfl, HS.out.symm, trivial⟩
    · have hge : ¬ ((k : Int) < (ws.length : Int)) := by omega
      have HS : Hid (t = ws.sum) := by show _ = _; rw [HT.out, List.take_of_length_le (by omega)]
      clear HT
      go_wp2
      go_ret
      refine ⟨?_, HB.out⟩
      rw [← HS.out]
      first | rfl | exact ret_bool (by rw [Bool.eq_iff_iff]; simp)

theorem fits_any (w : World) (kind width num : Int) (hw0 : 1 ≤ width) (hw1 : width ≤ 32) (hn : 0 ≤ num) (aa : Option Addr) (al ac : Nat) (aw : Option Addr) (ws : List Int) (cw : Nat) (hr : RowAt w.heap.size w aw 1 (ws.map intC))
    (hws : ∀ x, x ∈ ws → 1 ≤ x ∧ x ≤ 32) (hl : ws.length < big) (h1 : 0 ≤ wantOf kind → (ws.length : Int) = wantOf kind) (h2 : wantOf kind = -1 → ws ≠ []) :
    Calls Try.prog 31 #[.agg #[.int .i64 kind, .int .i64 width, .int .u64 num, .slice aa al ac], .slice aw ws.length cw] w fun e w' => e = .returned (.bool (fitsOf kind width num ws)) ∧ Below w.heap.size w w' := by
  have cell0 : ∀ n, 0 < n → ws.length = n → ∃ b o, aw = some ⟨b, o, none⟩ ∧ b < w.heap.size ∧ ∀ (i : Nat), i < ws.length → w.cell? ⟨b, o + i, none⟩ = some (.int .i64 (at0 ws i)) := fun n h0 e => hr.int (i := 0) (by omega)
  rcases fits_cases kind with h | ⟨n1, n2, n3, n4, n5, n6, n7, n8, n9, n10, n11, n12, n13, n14, n15, n16, n17, n18⟩
  · rcases h with rfl | rfl | h | h | h | h | h | rfl | rfl
    · have e := h1 (by decide)
      obtain ⟨b, o, rfl, hb, hc⟩ := cell0 1 (by decide) (by simp [wantOf] at e; omega)
      have hx := hws (at0 ws 0) (by have : 0 < ws.length := by simp [wantOf] at e; omega
                                    simp [at0, List.getElem?_eq_getElem this])
      exact fits_slice w width num hn hw0 hw1 aa al ac b o hb _ hx.1 hx.2 _ cw (by simp [wantOf] at e; omega) (hc 0 (by simp [wantOf] at e; omega))
    · have e := h2 (by decide)
      have hp : 0 < ws.length := List.length_pos_iff.2 e
      obtain ⟨b, o, rfl, hb, hc⟩ := cell0 ws.length hp rfl
      exact fits_cat w width num aa al ac b o hb ws cw hws hl hc
    · subst h
      have e := h1 (by decide)
      obtain ⟨b, o, rfl, hb, hc⟩ := cell0 1 (by decide) (by simp [wantOf] at e; omega)
      exact fits_one w _ width num aa al ac (.inl rfl) b o hb _ _ cw (by simp [wantOf] at e; omega) (hc 0 (by simp [wantOf] at e; omega))
    · have e : fitsOf kind width num ws = decide (width = 1) := by rcases h with rfl | rfl | rfl <;> rfl
      rw [e]; exact fits_width w kind width num aa al ac h aw _ cw
    · have e : wantOf kind = 2 := by rcases h with rfl | rfl | rfl | rfl | rfl | rfl <;> rfl
      have e2 := h1 (by rw [e]; decide)
      rw [e] at e2
      obtain ⟨b, o, rfl, hb, hc⟩ := cell0 2 (by decide) (by omega)
      have e3 : fitsOf kind width num ws = decide (at0 ws 0 = width ∧ at0 ws 1 = width) := by rcases h with rfl | rfl | rfl | rfl | rfl | rfl <;> rfl
      rw [e3]
      exact fits_two w kind width num aa al ac h b o hb _ _ _ cw (by omega) (hc 0 (by omega)) (hc 1 (by omega))
    · have e : wantOf kind = 2 := by rcases h with rfl | rfl <;> rfl
      have e2 := h1 (by rw [e]; decide)
      rw [e] at e2
      obtain ⟨b, o, rfl, hb, hc⟩ := cell0 2 (by decide) (by omega)
      have e3 : fitsOf kind width num ws = decide (at0 ws 0 = width) := by rcases h with rfl | rfl <;> rfl
      rw [e3]
      exact fits_one w kind width num aa al ac (.inr h) b o hb _ _ cw (by omega) (hc 0 (by omega))
    · have e : wantOf kind = 2 := by rcases h with rfl | rfl <;> rfl
      have e2 := h1 (by rw [e]; decide)
      rw [e] at e2
      obtain ⟨b, o, rfl, hb, hc⟩ := cell0 2 (by decide) (by omega)
      have e3 : fitsOf kind width num ws = decide (at0 ws 0 = at0 ws 1 ∧ width = 1) := by rcases h with rfl | rfl <;> rfl
      rw [e3]
      exact fits_same w kind width num aa al ac h b o hb _ _ _ cw (by omega) (hc 0 (by omega)) (hc 1 (by omega))
    · have e : wantOf 22 = 3 := rfl
      have e2 := h1 (by rw [e]; decide)
      rw [e] at e2
      obtain ⟨b, o, rfl, hb, hc⟩ := cell0 3 (by decide) (by omega)
      exact fits_if w width num aa al ac b o hb _ _ _ _ cw (by omega) (by omega) (hc 0 (by omega)) (hc 1 (by omega)) (hc 2 (by omega))
    · have hw : width = ((width.toNat : Nat) : Int) := by omega
      have e : fitsOf 1 width num ws = decide (num ≤ ((2 ^ width.toNat : Nat) : Int) - 1) := rfl
      rw [e]
      have := fits_num w width.toNat num (by omega) (by omega) aa al ac aw ws.length cw
      rw [← hw] at this
      exact this
  · have e : fitsOf kind width num ws = true := by
      unfold fitsOf
      rw [if_neg n1, if_neg n2, if_neg n3, if_neg (by omega), if_neg (by omega), if_neg (by omega), if_neg (by omega), if_neg n17, if_neg n18]
    rw [e]
    exact fits_other w kind width num aa al ac n1 n2 n3 n4 n5 n6 n7 n8 n9 n10 n11 n12 n13 n14 n15 n16 n17 n18 aw _ cw

end Go.Proofs.Ytlkhmcajedjojaa

namespace Go.Proofs.Ytlkhmcajedjojaa
open Go.RowKit

def widthAt (N : NetD) (a : Int) : Int := (N.nodes[a.toNat]?.map NodeD.width).getD 0
def wsOf (N : NetD) (l : List Int) : List Int := l.map (widthAt N)
def badArg (i : Nat) (a : Int) : Bool := decide (a < 0 ∨ (i : Int) ≤ a)
/-- a node that falls by itself -/
abbrev nodeOut (d : NodeD) : Prop := widthOk d.width = false ∨ wantOf d.kind = -2 ∨ (0 ≤ wantOf d.kind ∧ (d.args.length : Int) ≠ wantOf d.kind) ∨ (wantOf d.kind = -1 ∧ d.args.length = 0)
/-- the rest of it -/
def nodeEnd (N : NetD) (d : NodeD) : Bool :=
  if d.kind = 30 then decide (d.num < (N.ins.length : Int) ∧ at0 N.ins d.num.toNat = d.width)
  else if d.kind = 31 then decide (d.num < (N.regs.length : Int) ∧ ((N.regs[d.num.toNat]?.map RegD.width).getD 0) = d.width)
  else if d.kind = 32 then decide (d.num < (N.mems.length : Int) ∧ ((N.mems[d.num.toNat]?.map MemD.width).getD 0) = d.width)
  else if d.kind = 1 ∨ d.kind = 5 then fitsOf d.kind d.width d.num (wsOf N d.args)
  else decide (d.num = 0 ∧ fitsOf d.kind d.width d.num (wsOf N d.args) = true)
def nodeOk (N : NetD) (i : Nat) (d : NodeD) : Bool :=
  if nodeOut d then false else if d.args.any (badArg i) then false else nodeEnd N d

theorem info_int0 : (Try.prog.info? 3).map (fun i => (i.zero, i.size, i.bytes)) = some (some (.int .i64 0), 1, 8) := by kernel_rfl
theorem info_int : ∃ i, Try.prog.info? 3 = some i ∧ i.zero = some (.int .i64 0) ∧ i.size = 1 ∧ i.bytes = 8 := by
  have h := info_int0
  cases hi : Try.prog.info? 3 with
  | none => rw [hi] at h; cases h
  | some i => rw [hi] at h; simp at h; exact ⟨i, rfl, h.1, h.2.1, h.2.2⟩

set_option maxRecDepth 100000 in
set_option maxHeartbeats 8000000 in
theorem nodeValid_early (B : Nat) (w : World) (S : NetS) (N : NetD) (h : NetAt B w S N) (hB : B ≤ w.heap.size) (i : Nat) (d : NodeD) (hd : N.nodes[i]? = some d) (ho : nodeOut d) :
    Calls Try.prog 20 #[.agg (S.cells N), .int .i64 i] w fun e w' => e = .returned (.bool false) ∧ Below w.heap.size w w' := by
  unfold NetS.cells
  obtain ⟨b, o, ha, hlt, hc⟩ := h.n.el hd
  have hi : i < N.nodes.length := by
    rcases Nat.lt_or_ge i N.nodes.length with h' | h'
    · exact h'
    · rw [List.getElem?_eq_none h'] at hd; cases hd
  have c0 : w.cell? ⟨b, o + i * 4, none⟩ = _ := hc 0 _ rfl
  have c1 := hc 1 _ rfl
  have c2 := hc 2 _ rfl
  have c3 := hc 3 _ rfl
  have hb : b < w.heap.size := Nat.lt_of_lt_of_le hlt hB
  have hiI : (i : Int) < (N.nodes.length : Int) := by omega
  have WD : Hid (∀ w, Calls Try.prog 18 #[.int .i64 d.width] w fun e w' => e = .returned (.bool (widthOk d.width)) ∧ w' = w) := fun w => width_any d.width w
  have WT : Hid (∀ w, Calls Try.prog 30 #[.int .i64 d.kind] w fun e w' => e = .returned (.int .i64 (wantOf d.kind)) ∧ w' = w) := fun w => want_any d.kind w
  have HO : Hid (nodeOut d) := ho
  rw [ha]
  clear ha hc h hd ho
  obtain ⟨kind, width, num, args, aa, ac⟩ := d
  simp only at c0 c1 c2 c3 WD WT
  unfold nodeOut at HO
  simp only at HO
  generalize widthOk width = wo at WD HO
  generalize wantOf kind = K at WT HO
  have hcs : wo = false ∨ (wo = true ∧ K = -2) ∨ (wo = true ∧ K ≠ -2 ∧ 0 ≤ K ∧ (args.length : Int) ≠ K) ∨ (wo = true ∧ K = -1 ∧ (args.length : Int) = 0) := by
    have := HO.out
    cases wo
    · exact .inl rfl
    · right
      rcases this with h | h | h | h
      · cases h
      · exact .inl ⟨rfl, h⟩
      · exact .inr (.inl ⟨rfl, by omega, h.1, h.2⟩)
      · exact .inr (.inr ⟨rfl, h.1, by omega⟩)
  clear HO
  rcases hcs with rfl | ⟨rfl, rfl⟩ | ⟨rfl, h1, h2, h3⟩ | ⟨rfl, rfl, h3⟩
  all_goals
    go_enter Try.func20, Try.ntmps20
    go_wp2_with (first | (go_at_call 18; refine (WD.out _).mono ?_; rintro e w' ⟨rfl, rfl⟩) | (go_at_call 30; refine (WT.out _).mono ?_; rintro e w' ⟨rfl, rfl⟩))
    go_ret
    exact ⟨rfl, ((Below.refl _ _).alloc (Nat.le_refl _) _).alloc (by simp) _⟩

end Go.Proofs.Ytlkhmcajedjojaa

namespace Go.Proofs.Ytlkhmcajedjojaa
open Go.RowKit

def intV (x : Int) : Value := .int .i64 x
theorem add0 (g j : Nat) : ((⟨g, 0, none⟩ : Addr).add j) = ⟨g, j, none⟩ := by unfold Addr.add; split <;> simp_all
theorem own_row {w : World} {C : Nat} {v : Value} {n : Nat} {xs : List Int} (h : w.ownsRow C 3 1 v n (xs.map intV)) :
    n = xs.length ∧ ∃ aw cw, v = .slice aw n cw ∧ RowAt w.heap.size w aw 1 (xs.map intC) := by
  have hl : n = xs.length := by have := h.1; simp at this; omega
  refine ⟨hl, ?_⟩
  rcases h.2 with ⟨h0, h1⟩ | ⟨g, cap, cur, hv, h1⟩
  · refine ⟨none, 0, by rw [h0, h1], fun he => ?_⟩
    exfalso; apply he; have : xs.length = 0 := by omega
    rw [List.length_eq_zero_iff.1 this]; rfl
  · refine ⟨some ⟨g, 0, none⟩, cap, hv, fun _ => ⟨g, 0, rfl, ?_, ?_⟩⟩
    · exact (h.lt g (by rw [hv]; rfl)).2
    · intro i cs hi j x hj
      have hc := h.cells (g := g) (by rw [hv]; rfl) i
      rw [List.getElem?_map] at hi
      cases hx : xs[i]? with
      | none => rw [hx] at hi; cases hi
      | some y =>
        rw [hx] at hi
        have e : [Value.int .i64 y] = cs := by simpa [intC] using hi
        subst e
        cases j with
        | succ j => simp at hj
        | zero =>
          have ex : Value.int .i64 y = x := by simpa using hj
          subst ex
          have := hc (.int .i64 y) (by rw [List.getElem?_map, hx]; rfl)
          rw [add0] at this
          simpa using this
theorem take_next {α : Type} (l : List α) (k : Nat) (x : α) (h : l[k]? = some x) : l.take (k + 1) = l.take k ++ [x] := by
  rw [List.take_add_one, h]; rfl
theorem sees_of {W w' : World} (h : Below W.heap.size W w') : Below W.heap.size W w' ∧ (∀ b' o, b' < W.heap.size → w'.cell? ⟨b', o, none⟩ = W.cell? ⟨b', o, none⟩) := ⟨h, fun b' o hb => h.cell (p := ⟨b', o, none⟩) hb⟩

theorem sees_alloc {W wr : World} (h : Below W.heap.size W wr) (o : Obj) : Below W.heap.size W ((wr.alloc o).drew) ∧ (∀ b' q, b' < W.heap.size → ((wr.alloc o).drew).cell? ⟨b', q, none⟩ = W.cell? ⟨b', q, none⟩) := sees_of (h.alloc h.size o).drew
theorem grown_below {W wr w5 : World} (h : Below W.heap.size W wr) {o : Obj} {e : TypeId} {size n : Nat} {v : Value} {xs : List Value} (HO : wr.ownsRow W.heap.size e size v n xs) (hg : ((wr.alloc o).drew).grownBy w5 v.ownBlock) : Below W.heap.size W w5 :=
  (h.alloc h.size o).drew.grown hg (Nat.le_trans h.size (by simp)) (fun k hk => (HO.lt k hk).1)
theorem sees_grown {W wr w5 : World} (h : Below W.heap.size W wr) {o : Obj} {e : TypeId} {size n : Nat} {v : Value} {xs : List Value} (HO : wr.ownsRow W.heap.size e size v n xs) (hg : ((wr.alloc o).drew).grownBy w5 v.ownBlock) : Below W.heap.size W w5 ∧ (∀ b' q, b' < W.heap.size → w5.cell? ⟨b', q, none⟩ = W.cell? ⟨b', q, none⟩) := sees_of (grown_below h HO hg)
theorem heap_new (w : World) (o : Obj) : (w.alloc o).heap[w.heap.size]? = some o := by unfold World.alloc; simp

end Go.Proofs.Ytlkhmcajedjojaa
