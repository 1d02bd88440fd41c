import Derived.Test.YtefjicdhccfieaaK01
import Derived.Test.YtefjicdhccfieaaK50
import Derived.Test.YtefjicdhccfieaaK46
set_option maxRecDepth 100000
set_option maxHeartbeats 16000000
namespace Go.Proofs.Ytefjicdhccfieaa
open Go.RowKit
theorem sameBools_any (w : World) (a1 a2 : Option Addr) (c1 c2 : Nat) (l : List Bool) (hl : l.length < big) (R1 : Hid (RowAt w.heap.size w a1 1 (l.map bC))) (R2 : Hid (RowAt w.heap.size w a2 1 (l.map bC))) :
  Calls Try.prog 35 #[.slice a1 l.length c1, .slice a2 l.length c2] w fun e w' => e = .returned (.bool true) ∧ ∃ q, w' = w.drewN q := by
 simp only [big] at hl
 go_enter Try.func35, Try.ntmps35
 go_wp2_with fail
 go_loopw [5] (fun i' w' => ∃ (k : Nat), k ≤ l.length ∧ i' = .int .i64 k ∧ Hid (∃ q, w' = w.drewN q)) (fun i' _ => l.length - (intOf i').toNat)
 case atStart => exact ⟨0, Nat.zero_le _, rfl, ⟨0, rfl⟩⟩
 case round =>
  obtain ⟨k, hk, rfl, HQ⟩ := hrel
  obtain ⟨q, rfl⟩ := HQ.out
  by_cases hlt : k < l.length
  ·obtain ⟨x, hx⟩ := getElem_lt hlt
   obtain ⟨d1, p1, rfl, -, cx1⟩ := rowB R1.out hx
   obtain ⟨d2, p2, rfl, -, cx2⟩ := rowB R2.out hx
   have hltI : (k : Int) < (l.length : Int) := by omega
   have e3 : IntKind.i64.wrap ((k : Int) + 1) = (k : Int) + 1 := wrapI _ (by omega) (by omega)
   clear hx HQ
   cases x
   ·go_wp2_with fail
    go_quiet (fail)
    go_wp2
    go_roundw
    case measure => simp [intOf]; omega
    case rel => exact ⟨k + 1, by omega, by simp, ⟨_, rfl⟩⟩
   ·go_wp2_with fail
    go_quiet (fail)
    go_wp2
    go_roundw
    case measure => simp [intOf]; omega
    case rel => exact ⟨k + 1, by omega, by simp, ⟨_, rfl⟩⟩
  ·have hge : ¬ ((k : Int) < (l.length : Int)) := by omega
   clear HQ
   go_wp2
   go_ret
   exact ⟨rfl, _, rfl⟩
def RowsAt (w : World) (a : Option Addr) (rows : List RD) : Prop := ∀ (i : Nat) (r : RD), rows[i]? = some r → ∃ b o, a = some ⟨b, o, none⟩ ∧ b < w.heap.size ∧ w.cell? ⟨b, o + i, none⟩ = some r.v ∧ BS w r.v r.l
theorem sameRows_any (w : World) (a1 a2 : Option Addr) (c1 c2 : Nat) (ra rb : List RD) (n : Nat) (hn1 : ra.length = n) (hn2 : rb.length = n) (hl : n < big) (H1 : Hid (RowsAt w a1 ra)) (H2 : Hid (RowsAt w a2 rb)) (HE : Hid (ra.map RD.l = rb.map RD.l)) (hbig : ∀ r, r ∈ ra → r.l.length < big) :
  Calls Try.prog 13 #[.slice a1 n c1, .slice a2 n c2] w fun e w' => e = .returned (.bool true) ∧ ∃ q, w' = w.drewN q := by
 simp only [big] at hl
 go_enter Try.func13, Try.ntmps13
 go_wp2_with fail
 go_loopw [5] (fun i' w' => ∃ (k : Nat), k ≤ n ∧ i' = .int .i64 k ∧ Hid (∃ q, w' = w.drewN q)) (fun i' _ => n - (intOf i').toNat)
 case atStart => exact ⟨0, Nat.zero_le _, rfl, ⟨0, rfl⟩⟩
 case round =>
  obtain ⟨k, hk, rfl, HQ⟩ := hrel
  have HBw : Hid (Below w.heap.size w wr) := by obtain ⟨q, rfl⟩ := HQ.out; exact Below.drewN (Below.refl _ _) _
  by_cases hlt : k < n
  ·obtain ⟨r1, hr1⟩ : ∃ r, ra[k]? = some r := getElem_lt (by omega)
   obtain ⟨r2, hr2⟩ : ∃ r, rb[k]? = some r := getElem_lt (by omega)
   obtain ⟨d1, p1, rfl, l1, cx1, b1⟩ := H1.out k r1 hr1
   obtain ⟨d2, p2, rfl, l2, cx2, b2⟩ := H2.out k r2 hr2
   have el : r1.l = r2.l := by
    have := congrArg (fun l => l[k]?) HE.out
    simpa [hr1, hr2] using this
   have hbl := hbig r1 (List.mem_of_getElem? hr1)
   rw [← el] at b2
   obtain ⟨x1, z1, e1, w1⟩ := b1.row
   obtain ⟨x2, z2, e2, w2⟩ := b2.row
   replace cx1 := (HBw.out.cell (p := ⟨d1, p1 + k, none⟩) l1).trans cx1
   replace cx2 := (HBw.out.cell (p := ⟨d2, p2 + k, none⟩) l2).trans cx2
   rw [e1] at cx1
   rw [e2] at cx2
   have SB : Hid (∀ v, Below w.heap.size w v → Calls Try.prog 35 #[.slice x1 r1.l.length z1, .slice x2 r1.l.length z2] v fun e w' => e = .returned (.bool true) ∧ ∃ q, w' = v.drewN q) := fun v hv => sameBools_any v x1 x2 z1 z2 r1.l hbl ((w1.to hv).mono hv.size) ((w2.to hv).mono hv.size)
   generalize r1.l.length = ln at *
   have hltI : (k : Int) < (n : Int) := by omega
   have e3 : IntKind.i64.wrap ((k : Int) + 1) = (k : Int) + 1 := wrapI _ (by omega) (by omega)
   clear hr1 hr2 el b1 b2 w1 w2 e1 e2 hbl l1 l2
   go_wp2_with fail
   go_quiet ((go_at_call 35; exact Calls.quiet_of (SB.out _ (Below.drewN HBw.out _))))
   go_wp2
   go_roundw
   case measure => simp [intOf]; omega
   case rel =>
    obtain ⟨q, hq⟩ := HQ.out
    exact ⟨k + 1, by omega, by simp, ⟨q + nq, by rw [hq, World.drewN_drewN]⟩⟩
  ·have hge : ¬ ((k : Int) < (n : Int)) := by omega
   go_wp2
   go_ret
   exact ⟨rfl, HQ.out⟩
end Go.Proofs.Ytefjicdhccfieaa

set_option maxRecDepth 100000
set_option maxHeartbeats 16000000
namespace Go.Proofs.Ytefjicdhccfieaa
open Go.RowKit
theorem grOk_parts {G : GrD} (h : GrOk G = true) : G.small ∧ AndsIn G ∧ LatsIn G (1 + G.ins.toNat + G.lats.length + G.ands.length) ∧ OutsIn G (1 + G.ins.toNat + G.lats.length + G.ands.length) := by
 unfold GrOk at h
 simp only [Bool.and_eq_true, decide_eq_true_eq] at h
 obtain ⟨⟨⟨hs, ha⟩, hl⟩, ho⟩ := h
 have g0 := hs.1
 have hv : G.vars = (((1 + G.ins.toNat + G.lats.length + G.ands.length) : Nat) : Int) := by unfold GrD.vars GrD.first; omega
 refine ⟨hs, fun k d hd => ?_, fun k d hd => ?_, fun k l hl' => ?_⟩
 ·have hk : k < G.ands.length := (List.getElem?_eq_some_iff.1 hd).1
  have := List.all_eq_true.1 ha k (List.mem_range.2 hk)
  rw [andOk_of hd] at this
  simp only [litOkG, Bool.and_eq_true, decide_eq_true_eq] at this
  have hf : G.first + (k : Int) = ((1 + G.ins.toNat + G.lats.length + k : Nat) : Int) := by unfold GrD.first; omega
  rw [hf] at this
  exact this
 ·have := List.all_eq_true.1 hl d (List.mem_of_getElem? hd)
  simp only [latOk, litOkG, decide_eq_true_eq, hv] at this
  exact this
 ·have := List.all_eq_true.1 ho l (List.mem_of_getElem? hl')
  simp only [litOkG, decide_eq_true_eq, hv] at this
  exact this
theorem run_each (G : GrD) (tr : List (List Bool)) (st : List Bool) : ∀ x, x ∈ runN G tr st → x.length = G.outs.length := by
 induction tr generalizing st with
 | nil => intro x hx; cases hx
 | cons r t ih =>
  intro x hx
  rcases List.mem_cons.1 hx with rfl | hx
  ·unfold outN; simp
  ·exact ih _ x hx
theorem rows_of {w : World} {C n : Nat} {v : Value} {rows : List RD} (h : w.ownsRow C 62 1 v n (rows.map RD.v)) (hb : ∀ r, r ∈ rows → BS w r.v r.l) : ∃ a c, v = .slice a n c ∧ RowsAt w a rows ∧ rows.length = n := by
 have hl : rows.length = n := by have := h.1; simp at this; omega
 rcases h.2 with ⟨h0, h1⟩ | ⟨g, cap, cur, hv, h1⟩
 ·refine ⟨none, 0, by rw [h0, h1], fun i r hr => ?_, hl⟩
  have := (List.getElem?_eq_some_iff.1 hr).1
  omega
 ·refine ⟨some ⟨g, 0, none⟩, cap, hv, fun i r hr => ⟨g, 0, rfl, (h.lt g (by rw [hv]; rfl)).2, ?_, hb r (List.mem_of_getElem? hr)⟩, hl⟩
  have := h.cells (g := g) (by rw [hv]; rfl) i r.v (by rw [List.getElem?_map, hr]; rfl)
  rw [add0] at this
  simpa using this
theorem RowsAt.to {w w' : World} {a : Option Addr} {rows : List RD} (h : RowsAt w a rows) (hb : Below w.heap.size w w') : RowsAt w' a rows := fun i r hr => by
 obtain ⟨b, o, ha, hlt, hc, hbs⟩ := h i r hr
 exact ⟨b, o, ha, Nat.lt_of_lt_of_le hlt hb.size, (hb.cell (p := ⟨b, o + i, none⟩) hlt).trans hc, hbs.to hb⟩
end Go.Proofs.Ytefjicdhccfieaa

set_option maxRecDepth 100000
set_option maxHeartbeats 16000000
namespace Go.Proofs.Ytefjicdhccfieaa
open Go.RowKit
def Lits (M : Int → Prop) : Prop := ∀ m : Int, m ≠ 0 → (M (-m) ↔ ¬ M m)
def Mod (M : Int → Prop) (F : List (List Int)) : Prop := ∀ c, c ∈ F → ∃ m, m ∈ c ∧ M m
def NoZ (F : List (List Int)) : Prop := ∀ c, c ∈ F → ∀ m, m ∈ c → m ≠ 0
theorem litOk_ne {v m : Int} (h : litOk v m = true) : m ≠ 0 := by
 intro e
 subst e
 simp [litOk] at h
theorem der_true {M : Int → Prop} (hM : Lits M) {F : List (List Int)} {A : Int → Prop} (hF : Mod M F) (hz : NoZ F) (hA : ∀ l, A l → M l) {l : Int} (h : Der F A l) : M l := by
 induction h with
 | asm h => exact hA _ h
 | @unit c l h1 h2 h3 ih =>
  obtain ⟨m, hm, ht⟩ := hF _ h1
  by_cases e : m = l
  ·exact e ▸ ht
  ·exact absurd ht ((hM m (hz _ h1 m hm)).1 (ih m hm e))
theorem fol_true' {M : Int → Prop} (hM : Lits M) {F : List (List Int)} (hF : Mod M F) (hz : NoZ F) {c : List Int} (hc : ∀ m, m ∈ c → m ≠ 0) (h : Fol F c) : ∃ m, m ∈ c ∧ M m := by
 rcases h with ⟨l, h1, h2⟩ | ⟨d, hd, hcl⟩
 ·by_cases e : M l
  ·exact ⟨l, h1, e⟩
  ·exact ⟨-l, h2, (hM l (hc l h1)).2 e⟩
 ·refine Classical.byContradiction fun hn => ?_
  have hno : ∀ m, m ∈ c → ¬ M m := fun m hm e => hn ⟨m, hm, e⟩
  have hA : ∀ l, -l ∈ c → M l := fun l hl => by
   have hl0 : l ≠ 0 := by have := hc _ hl; omega
   refine Classical.byContradiction fun e => ?_
   exact hno _ hl ((hM l hl0).2 e)
  obtain ⟨m, hm, ht⟩ := hF d hd
  exact ((hM m (hz d hd m hm)).1 (der_true hM hF hz hA (hcl m hm))) ht
theorem ref_no_model {v : Int} {F st : List (List Int)} (h : RefP v F st) (M : Int → Prop) (hM : Lits M) : ¬ Mod M F := by
 intro hF
 obtain ⟨⟨-, -, hl⟩, hlast, hst⟩ := h
 have hz : NoZ F := fun c hc m hm => litOk_ne (hl c hc m hm)
 have key : ∀ i, i ≤ st.length → Mod M (F ++ st.take i) ∧ NoZ (F ++ st.take i) := by
  intro i
  induction i with
  | zero => intro _; simpa using ⟨hF, hz⟩
  | succ i ih =>
   intro hi
   obtain ⟨h1, h2⟩ := ih (by omega)
   obtain ⟨c, hc⟩ : ∃ c, st[i]? = some c := ⟨st[i], List.getElem?_eq_getElem (by omega)⟩
   obtain ⟨h3, h4⟩ := hst i c hc
   have hc0 : ∀ m, m ∈ c → m ≠ 0 := fun m hm => litOk_ne (h3 m hm)
   have hM' := fol_true' hM h1 h2 hc0 h4
   rw [take_next st i c hc, ← List.append_assoc]
   refine ⟨fun d hd => ?_, fun d hd => ?_⟩
   ·rcases List.mem_append.1 hd with hd | hd
    ·exact h1 d hd
    ·rw [List.mem_singleton.1 hd]; exact hM'
   ·rcases List.mem_append.1 hd with hd | hd
    ·exact h2 d hd
    ·rw [List.mem_singleton.1 hd]; exact hc0
 obtain ⟨hk, -⟩ := key st.length (Nat.le_refl _)
 have hmem : [] ∈ F ++ st.take st.length := by
  rw [List.take_length]
  exact List.mem_append.2 (.inr (List.mem_of_getLast? hlast))
 obtain ⟨m, hm, -⟩ := hk _ hmem
 cases hm
def litF (V : Nat → Bool) (l : Int) : Bool := V (l / 2).toNat != decide (l % 2 = 1)
def valM (sz bf : Nat) (V0 V1 : Nat → Bool) (D : Nat → Bool) (k : Nat) : Bool := if k ≤ bf then (if k ≤ sz then V0 (k - 1) else V1 (k - 1 - sz)) else D (k - bf - 1)
def litM (val : Nat → Bool) (m : Int) : Prop := (0 < m ∧ val m.toNat = true) ∨ (m < 0 ∧ val (-m).toNat = false)
theorem litM_lits (val : Nat → Bool) : Lits (litM val) := fun m hm => by
 unfold litM
 rcases Int.lt_or_gt_of_ne hm with h | h
 ·constructor
  ·rintro (⟨-, h2⟩ | ⟨h1, -⟩)
   ·rintro (⟨h3, -⟩ | ⟨-, h3⟩)
    ·omega
    ·rw [h2] at h3; cases h3
   ·omega
  ·intro hn
   refine .inl ⟨by omega, ?_⟩
   cases e : val (-m).toNat with
   | true => rfl
   | false => exact absurd (.inr ⟨h, e⟩) hn
 ·constructor
  ·rintro (⟨h1, -⟩ | ⟨-, h2⟩)
   ·omega
   ·rintro (⟨-, h3⟩ | ⟨h3, -⟩)
    ·rw [Int.neg_neg] at h2; rw [h3] at h2; cases h2
    ·omega
  ·intro hn
   refine .inr ⟨by omega, ?_⟩
   rw [Int.neg_neg]
   cases e : val m.toNat with
   | false => rfl
   | true => exact absurd (.inl ⟨h, e⟩) hn
theorem litM_neg {val : Nat → Bool} {m : Int} (hm : m ≠ 0) : litM val (-m) ↔ ¬ litM val m := litM_lits val m hm
theorem litM_num {sz : Int} {bf : Nat} {V0 V1 D : Nat → Bool} (k : Int) (V : Nat → Bool) (hk : (k = 0 ∧ V = V0 ∧ sz ≤ bf) ∨ (k = 1 ∧ V = V1 ∧ 2 * sz ≤ bf)) {l : Int} (h0 : 0 ≤ l) (h1 : l < 2 * sz) :
  numF sz k l ≠ 0 ∧ (litM (valM sz.toNat bf V0 V1 D) (numF sz k l) ↔ litF V l = true) := by
 have hv : ∀ j : Nat, (j : Int) < sz → valM sz.toNat bf V0 V1 D (k * sz + j + 1).toNat = V j := fun j hj => by
  unfold valM
  rcases hk with ⟨rfl, rfl, hb⟩ | ⟨rfl, rfl, hb⟩
  ·rw [if_pos (by omega), if_pos (by omega)]
   congr 1; omega
  ·rw [if_pos (by omega), if_neg (by omega)]
   congr 1; omega
 have hj : ((l / 2).toNat : Int) = l / 2 := by omega
 have hv' := hv (l / 2).toNat (by omega)
 rw [hj] at hv'
 have hks : 0 ≤ k * sz := by rcases hk with ⟨rfl, -, -⟩ | ⟨rfl, -, -⟩ <;> omega
 unfold numF litF
 by_cases hp : l % 2 = 1
 ·rw [if_pos hp]
  refine ⟨by omega, ?_⟩
  rw [litM_neg (by omega), decide_eq_true hp]
  unfold litM
  constructor
  ·intro hn
   cases e : V (l / 2).toNat with
   | false => rfl
   | true => exact absurd (.inl ⟨by omega, by rw [hv', e]⟩) hn
  ·intro hx
   rintro (⟨-, h3⟩ | ⟨h3, -⟩)
   ·rw [hv'] at h3; rw [h3] at hx; cases hx
   ·omega
 ·rw [if_neg hp]
  refine ⟨by omega, ?_⟩
  rw [decide_eq_false hp]
  unfold litM
  constructor
  ·rintro (⟨-, h3⟩ | ⟨h3, -⟩)
   ·rw [hv'] at h3; rw [h3]; rfl
   ·omega
  ·intro hx
   refine .inl ⟨by omega, ?_⟩
   rw [hv']
   cases e : V (l / 2).toNat with
   | true => rfl
   | false => rw [e] at hx; cases hx
structure Inn (G : GrD) : Prop where
 i0 : 0 ≤ G.ins
 ands : ∀ d, d ∈ G.ands → (0 ≤ d.x ∧ d.x < 2 * G.vars) ∧ (0 ≤ d.y ∧ d.y < 2 * G.vars)
 lats : ∀ d, d ∈ G.lats → 0 ≤ d.next ∧ d.next < 2 * G.vars
 outs : ∀ l, l ∈ G.outs → 0 ≤ l ∧ l < 2 * G.vars
def Val (G : GrD) (V : Nat → Bool) : Prop := V 0 = false ∧ ∀ (i : Nat) (d : AndD), G.ands[i]? = some d → V (G.first.toNat + i) = (litF V d.x && litF V d.y)
def Agree (V : Nat → Bool) (prs : List AndD) : Prop := ∀ d, d ∈ prs → litF V d.x = litF V d.y
theorem litF_even (V : Nat → Bool) (n : Nat) : litF V (2 * (n : Int)) = V n := by
 unfold litF
 rw [show (2 * (n : Int)) / 2 = (n : Int) by omega, decide_eq_false (by omega)]
 simp
section
variable {G : GrD} {bf : Nat} {V0 V1 D : Nat → Bool} {k : Int} {V : Nat → Bool}
theorem frame_mod (hI : Inn G) (hk : (k = 0 ∧ V = V0 ∧ G.vars ≤ bf) ∨ (k = 1 ∧ V = V1 ∧ 2 * G.vars ≤ bf)) (hV : Val G V) : Mod (litM (valM G.vars.toNat bf V0 V1 D)) (frameF G.vars k G) := by
 have hfv : G.first = 1 + G.ins + G.lats.length := rfl
 have hvv : G.vars = G.first + G.ands.length := rfl
 have hi0 := hI.i0
 have N := fun (l : Int) (h0 : 0 ≤ l) (h1 : l < 2 * G.vars) => litM_num (bf := bf) (V0 := V0) (V1 := V1) (D := D) k V hk h0 h1
 intro c hc
 unfold frameF at hc
 rcases List.mem_append.1 hc with hc | hc
 ·rw [List.mem_singleton.1 hc]
  refine ⟨_, List.mem_singleton.2 rfl, ?_⟩
  obtain ⟨n0, n1⟩ := N 0 (by omega) (by omega)
  rw [litM_neg n0, n1]
  have : litF V 0 = V 0 := litF_even V 0
  rw [this, hV.1]
  decide
 ·obtain ⟨i, hi, hc⟩ := List.mem_flatMap.1 hc
  unfold gateF at hc
  cases hd : G.ands[i]? with
  | none => rw [hd] at hc; cases hc
  | some d =>
   rw [hd] at hc
   have hil : i < G.ands.length := (List.getElem?_eq_some_iff.1 hd).1
   obtain ⟨hx, hy⟩ := hI.ands d (List.mem_of_getElem? hd)
   obtain ⟨g0, g1⟩ := N (2 * (G.first + i)) (by omega) (by omega)
   obtain ⟨x0, x1⟩ := N d.x hx.1 hx.2
   obtain ⟨y0, y1⟩ := N d.y hy.1 hy.2
   have hg := hV.2 i d hd
   have hgl : litF V (2 * (G.first + i)) = (litF V d.x && litF V d.y) := by
    rw [← hg, ← litF_even V (G.first.toNat + i)]
    congr 1
    omega
   rw [hgl] at g1
   simp only [List.mem_cons, List.not_mem_nil, or_false] at hc
   cases ex : litF V d.x <;> cases ey : litF V d.y <;> rw [ex, ey] at g1 <;> rw [ex] at x1 <;> rw [ey] at y1 <;> simp at g1 x1 y1
   ·rcases hc with rfl | rfl | rfl
    ·exact ⟨_, by simp, (litM_neg g0).2 g1⟩
    ·exact ⟨_, by simp, (litM_neg g0).2 g1⟩
    ·exact ⟨-(numF G.vars k d.x), by simp, (litM_neg x0).2 x1⟩
   ·rcases hc with rfl | rfl | rfl
    ·exact ⟨_, by simp, (litM_neg g0).2 g1⟩
    ·exact ⟨_, by simp, (litM_neg g0).2 g1⟩
    ·exact ⟨-(numF G.vars k d.x), by simp, (litM_neg x0).2 x1⟩
   ·rcases hc with rfl | rfl | rfl
    ·exact ⟨_, by simp, (litM_neg g0).2 g1⟩
    ·exact ⟨_, by simp, (litM_neg g0).2 g1⟩
    ·exact ⟨-(numF G.vars k d.y), by simp, (litM_neg y0).2 y1⟩
   ·rcases hc with rfl | rfl | rfl
    ·exact ⟨numF G.vars k d.x, by simp, x1⟩
    ·exact ⟨numF G.vars k d.y, by simp, y1⟩
    ·exact ⟨numF G.vars k (2 * (G.first + i)), by simp, g1⟩
theorem alike_mod {prs : List AndD} (hok : pairsOk G.vars prs = true) (hk : (k = 0 ∧ V = V0 ∧ G.vars ≤ bf) ∨ (k = 1 ∧ V = V1 ∧ 2 * G.vars ≤ bf)) (hA : Agree V prs) : Mod (litM (valM G.vars.toNat bf V0 V1 D)) ((List.range prs.length).flatMap (alikeF G.vars k prs)) := by
 have N := fun (l : Int) (h0 : 0 ≤ l) (h1 : l < 2 * G.vars) => litM_num (bf := bf) (V0 := V0) (V1 := V1) (D := D) k V hk h0 h1
 intro c hc
 obtain ⟨i, hi, hc⟩ := List.mem_flatMap.1 hc
 unfold alikeF at hc
 cases hd : prs[i]? with
 | none => rw [hd] at hc; cases hc
 | some d =>
  rw [hd] at hc
  have hdm := List.mem_of_getElem? hd
  have hp := List.all_eq_true.1 hok d hdm
  rw [Bool.and_eq_true] at hp
  have hx := of_decide_eq_true hp.1
  have hy := of_decide_eq_true hp.2
  obtain ⟨x0, x1⟩ := N d.x hx.1 hx.2
  obtain ⟨y0, y1⟩ := N d.y hy.1 hy.2
  have he := hA d hdm
  simp only [List.mem_cons, List.not_mem_nil, or_false] at hc
  cases ex : litF V d.x <;> rw [ex] at he x1 <;> rw [← he] at y1 <;> simp at x1 y1
  ·rcases hc with rfl | rfl
   ·exact ⟨-(numF G.vars k d.x), by simp, (litM_neg x0).2 x1⟩
   ·exact ⟨-(numF G.vars k d.y), by simp, (litM_neg y0).2 y1⟩
  ·rcases hc with rfl | rfl
   ·exact ⟨numF G.vars k d.y, by simp, y1⟩
   ·exact ⟨numF G.vars k d.x, by simp, x1⟩
theorem unlike_mod {prs : List AndD} (m : Int) (hm : (m = 1 ∧ bf = G.vars.toNat) ∨ (m = 2 ∧ bf = 2 * G.vars.toNat)) (hv0 : 0 ≤ G.vars) (hok : pairsOk G.vars prs = true) (hk : (k = 0 ∧ V = V0 ∧ G.vars ≤ bf) ∨ (k = 1 ∧ V = V1 ∧ 2 * G.vars ≤ bf)) (hD : ∀ i d, prs[i]? = some d → D i = (litF V d.x != litF V d.y)) (hA : ¬ Agree V prs) :
  Mod (litM (valM G.vars.toNat bf V0 V1 D)) ((List.range prs.length).flatMap (unlikeF G.vars k (m * G.vars) prs) ++ [someF (m * G.vars) prs.length]) := by
 have N := fun (l : Int) (h0 : 0 ≤ l) (h1 : l < 2 * G.vars) => litM_num (bf := bf) (V0 := V0) (V1 := V1) (D := D) k V hk h0 h1
 have hbf : m * G.vars = (bf : Int) := by rcases hm with ⟨rfl, rfl⟩ | ⟨rfl, rfl⟩ <;> omega
 rw [hbf]
 have ND : ∀ i : Nat, ((bf : Int) + 1 + i) ≠ 0 ∧ (litM (valM G.vars.toNat bf V0 V1 D) ((bf : Int) + 1 + i) ↔ D i = true) := fun i => by
  refine ⟨by omega, ?_⟩
  have hv : valM G.vars.toNat bf V0 V1 D ((bf : Int) + 1 + i).toNat = D i := by
   unfold valM
   rw [if_neg (by omega)]
   congr 1; omega
  unfold litM
  constructor
  ·rintro (⟨-, h⟩ | ⟨h, -⟩)
   ·rwa [hv] at h
   ·omega
  ·intro h
   exact .inl ⟨by omega, by rw [hv]; exact h⟩
 intro c hc
 rcases List.mem_append.1 hc with hc | hc
 ·obtain ⟨i, hi, hc⟩ := List.mem_flatMap.1 hc
  unfold unlikeF at hc
  cases hd : prs[i]? with
  | none => rw [hd] at hc; cases hc
  | some d =>
   rw [hd] at hc
   have hdm := List.mem_of_getElem? hd
   have hp := List.all_eq_true.1 hok d hdm
   rw [Bool.and_eq_true] at hp
   have hx := of_decide_eq_true hp.1
   have hy := of_decide_eq_true hp.2
   obtain ⟨x0, x1⟩ := N d.x hx.1 hx.2
   obtain ⟨y0, y1⟩ := N d.y hy.1 hy.2
   obtain ⟨d0, d1⟩ := ND i
   have hDi := hD i d hd
   simp only [List.mem_cons, List.not_mem_nil, or_false] at hc
   cases ex : litF V d.x <;> cases ey : litF V d.y <;> rw [ex, ey] at hDi <;> rw [ex] at x1 <;> rw [ey] at y1 <;> rw [hDi] at d1 <;> simp at x1 y1 d1
   ·rcases hc with rfl | rfl
    ·exact ⟨-((bf : Int) + 1 + i), by simp, (litM_neg d0).2 d1⟩
    ·exact ⟨-((bf : Int) + 1 + i), by simp, (litM_neg d0).2 d1⟩
   ·rcases hc with rfl | rfl
    ·exact ⟨numF G.vars k d.y, by simp, y1⟩
    ·exact ⟨-(numF G.vars k d.x), by simp, (litM_neg x0).2 x1⟩
   ·rcases hc with rfl | rfl
    ·exact ⟨numF G.vars k d.x, by simp, x1⟩
    ·exact ⟨-(numF G.vars k d.y), by simp, (litM_neg y0).2 y1⟩
   ·rcases hc with rfl | rfl
    ·exact ⟨-((bf : Int) + 1 + i), by simp, (litM_neg d0).2 d1⟩
    ·exact ⟨-((bf : Int) + 1 + i), by simp, (litM_neg d0).2 d1⟩
 ·rw [List.mem_singleton.1 hc]
  obtain ⟨d, hd, hne⟩ : ∃ d, d ∈ prs ∧ litF V d.x ≠ litF V d.y := Classical.byContradiction fun hn => hA fun d hd => Classical.byContradiction fun h => hn ⟨d, hd, h⟩
  obtain ⟨i, hi, rfl⟩ := List.getElem_of_mem hd
  refine ⟨(bf : Int) + 1 + i, ?_, ?_⟩
  ·unfold someF
   exact List.mem_map.2 ⟨i, List.mem_range.2 hi, rfl⟩
  ·rw [(ND i).2, hD i _ (List.getElem?_eq_getElem hi)]
   exact bne_iff_ne.2 hne
end
theorem Mod.app {M : Int → Prop} {a b : List (List Int)} (ha : Mod M a) (hb : Mod M b) : Mod M (a ++ b) := fun c hc => by
 rcases List.mem_append.1 hc with h | h
 ·exact ha c h
 ·exact hb c h
def difF (V : Nat → Bool) (prs : List AndD) (i : Nat) : Bool := match prs[i]? with | some d => litF V d.x != litF V d.y | none => false
theorem difF_at {V : Nat → Bool} {prs : List AndD} {i : Nat} {d : AndD} (h : prs[i]? = some d) : difF V prs i = (litF V d.x != litF V d.y) := by unfold difF; rw [h]
theorem base_sound {G : GrD} {prs : List AndD} {st : List (List Int)} (hI : Inn G) (hok : pairsOk G.vars prs = true) (h : RefP (formV G prs 0) (formF G prs 0) st) (V : Nat → Bool) (hV : Val G V) (hL : ∀ (i : Nat) (d : LatD), G.lats[i]? = some d → V ((1 + G.ins).toNat + i) = d.init) : Agree V prs := by
 refine Classical.byContradiction fun hA => ?_
 have hfv : G.first = 1 + G.ins + G.lats.length := rfl
 have hvv : G.vars = G.first + G.ands.length := rfl
 have hi0 := hI.i0
 have hk : ((0 : Int) = 0 ∧ V = V ∧ G.vars ≤ (G.vars.toNat : Nat)) ∨ ((0 : Int) = 1 ∧ V = V ∧ 2 * G.vars ≤ (G.vars.toNat : Nat)) := .inl ⟨rfl, rfl, by omega⟩
 refine ref_no_model h (litM (valM G.vars.toNat G.vars.toNat V V (difF V prs))) (litM_lits _) ?_
 have hF : formF G prs 0 = frameF G.vars 0 G ++ (List.range G.lats.length).flatMap (initF G.vars G) ++ ((List.range prs.length).flatMap (unlikeF G.vars 0 (1 * G.vars) prs) ++ [someF (1 * G.vars) prs.length]) := by
  rw [← List.append_assoc]; rfl
 rw [hF]
 refine ((frame_mod hI hk hV).app ?_).app (unlike_mod 1 (.inl ⟨rfl, rfl⟩) (by omega) hok hk (fun i d hd => difF_at hd) hA)
 intro c hc
 obtain ⟨i, hi, hc⟩ := List.mem_flatMap.1 hc
 unfold initF at hc
 cases hd : G.lats[i]? with
 | none => rw [hd] at hc; cases hc
 | some d =>
  rw [hd] at hc
  have hil : i < G.lats.length := (List.getElem?_eq_some_iff.1 hd).1
  obtain ⟨n0, n1⟩ := litM_num (bf := G.vars.toNat) (V0 := V) (V1 := V) (D := difF V prs) 0 V hk (l := 2 * (1 + G.ins + i)) (by omega) (by omega)
  have hl : litF V (2 * (1 + G.ins + i)) = d.init := by
   rw [← hL i d hd, ← litF_even V ((1 + G.ins).toNat + i)]
   congr 1
   omega
  rw [hl] at n1
  rw [List.mem_singleton.1 hc]
  refine ⟨_, List.mem_singleton.2 rfl, ?_⟩
  cases e : d.init with
  | true => rw [if_pos rfl]; exact n1.2 e
  | false =>
   rw [e] at n1
   simp only [Bool.false_eq_true, if_false]
   exact (litM_neg n0).2 (by rw [n1]; decide)
theorem step_sound {G : GrD} {prs : List AndD} {st : List (List Int)} (hI : Inn G) (hok : pairsOk G.vars prs = true) (h : RefP (formV G prs 1) (formF G prs 1) st) (V0 V1 : Nat → Bool) (hV0 : Val G V0) (hV1 : Val G V1) (hL : ∀ (i : Nat) (d : LatD), G.lats[i]? = some d → V1 ((1 + G.ins).toNat + i) = litF V0 d.next) (hA0 : Agree V0 prs) : Agree V1 prs := by
 refine Classical.byContradiction fun hA => ?_
 have hfv : G.first = 1 + G.ins + G.lats.length := rfl
 have hvv : G.vars = G.first + G.ands.length := rfl
 have hi0 := hI.i0
 have hk0 : ((0 : Int) = 0 ∧ V0 = V0 ∧ G.vars ≤ (2 * G.vars.toNat : Nat)) ∨ ((0 : Int) = 1 ∧ V0 = V1 ∧ 2 * G.vars ≤ (2 * G.vars.toNat : Nat)) := .inl ⟨rfl, rfl, by omega⟩
 have hk1 : ((1 : Int) = 0 ∧ V1 = V0 ∧ G.vars ≤ (2 * G.vars.toNat : Nat)) ∨ ((1 : Int) = 1 ∧ V1 = V1 ∧ 2 * G.vars ≤ (2 * G.vars.toNat : Nat)) := .inr ⟨rfl, rfl, by omega⟩
 refine ref_no_model h (litM (valM G.vars.toNat (2 * G.vars.toNat) V0 V1 (difF V1 prs))) (litM_lits _) ?_
 have hF : formF G prs 1 = frameF G.vars 0 G ++ frameF G.vars 1 G ++ (List.range G.lats.length).flatMap (goOnF G.vars G) ++ (List.range prs.length).flatMap (alikeF G.vars 0 prs) ++ ((List.range prs.length).flatMap (unlikeF G.vars 1 (2 * G.vars) prs) ++ [someF (2 * G.vars) prs.length]) := by
  rw [← List.append_assoc]; rfl
 rw [hF]
 refine (((((frame_mod hI hk0 hV0).app (frame_mod hI hk1 hV1)).app ?_).app (alike_mod hok hk0 hA0)).app (unlike_mod 2 (.inr ⟨rfl, rfl⟩) (by omega) hok hk1 (fun i d hd => difF_at hd) hA))
 intro c hc
 obtain ⟨i, hi, hc⟩ := List.mem_flatMap.1 hc
 unfold goOnF at hc
 cases hd : G.lats[i]? with
 | none => rw [hd] at hc; cases hc
 | some d =>
  rw [hd] at hc
  have hil : i < G.lats.length := (List.getElem?_eq_some_iff.1 hd).1
  obtain ⟨x0, x1⟩ := litM_num (bf := 2 * G.vars.toNat) (V0 := V0) (V1 := V1) (D := difF V1 prs) 1 V1 hk1 (l := 2 * (1 + G.ins + i)) (by omega) (by omega)
  have hn := hI.lats d (List.mem_of_getElem? hd)
  obtain ⟨y0, y1⟩ := litM_num (bf := 2 * G.vars.toNat) (V0 := V0) (V1 := V1) (D := difF V1 prs) 0 V0 hk0 hn.1 hn.2
  have hl : litF V1 (2 * (1 + G.ins + i)) = litF V0 d.next := by
   rw [← hL i d hd, ← litF_even V1 ((1 + G.ins).toNat + i)]
   congr 1
   omega
  rw [hl] at x1
  simp only [List.mem_cons, List.not_mem_nil, or_false] at hc
  cases ex : litF V0 d.next <;> rw [ex] at x1 y1 <;> simp at x1 y1
  ·rcases hc with rfl | rfl
   ·exact ⟨-(numF G.vars 1 (2 * (1 + G.ins + i))), by simp, (litM_neg x0).2 x1⟩
   ·exact ⟨-(numF G.vars 0 d.next), by simp, (litM_neg y0).2 y1⟩
  ·rcases hc with rfl | rfl
   ·exact ⟨numF G.vars 0 d.next, by simp, y1⟩
   ·exact ⟨numF G.vars 1 (2 * (1 + G.ins + i)), by simp, x1⟩
theorem outlet_sound {G : GrD} {prs : List AndD} {st : List (List Int)} (hI : Inn G) (hok : pairsOk G.vars prs = true) (hoo : pairsOk G.vars (outPrs G.outs) = true) (h : RefP (formV G prs 2) (formF G prs 2) st) (V : Nat → Bool) (hV : Val G V) (hA0 : Agree V prs) : Agree V (outPrs G.outs) := by
 refine Classical.byContradiction fun hA => ?_
 have hfv : G.first = 1 + G.ins + G.lats.length := rfl
 have hvv : G.vars = G.first + G.ands.length := rfl
 have hi0 := hI.i0
 have hk : ((0 : Int) = 0 ∧ V = V ∧ G.vars ≤ (G.vars.toNat : Nat)) ∨ ((0 : Int) = 1 ∧ V = V ∧ 2 * G.vars ≤ (G.vars.toNat : Nat)) := .inl ⟨rfl, rfl, by omega⟩
 refine ref_no_model h (litM (valM G.vars.toNat G.vars.toNat V V (difF V (outPrs G.outs)))) (litM_lits _) ?_
 have hF : formF G prs 2 = frameF G.vars 0 G ++ (List.range prs.length).flatMap (alikeF G.vars 0 prs) ++ ((List.range (outPrs G.outs).length).flatMap (unlikeF G.vars 0 (1 * G.vars) (outPrs G.outs)) ++ [someF (1 * G.vars) (outPrs G.outs).length]) := by
  rw [← List.append_assoc]; rfl
 rw [hF]
 exact ((frame_mod hI hk hV).app (alike_mod hok hk hA0)).app (unlike_mod 1 (.inl ⟨rfl, rfl⟩) (by omega) hoo hk (fun i d hd => difF_at hd) hA)
end Go.Proofs.Ytefjicdhccfieaa
