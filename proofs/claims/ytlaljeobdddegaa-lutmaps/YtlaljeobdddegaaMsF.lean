import Derived.Test.YtlaljeobdddegaaMsE
namespace Go.Proofs.Ytlaljeobdddegaa
open Go.RowKit Mp

theorem grw_of {H s g n c : Nat} {v : Value} (h : v.ownBlock = some g ∨ g = s) (hs : H ≤ s) : Grw H v (.slice (some ⟨g, 0, none⟩) n c) := by
  rcases h with h | h
  · exact Or.inl h.symm
  · exact Or.inr ⟨g, by omega, rfl⟩
/-- the cuts grow, then the depths -/
theorem LsAt.both {C g1 n1 c1 g2 n2 c2 x : Nat} {w w1 w2 w3 w4 : World} {cv lv : Value} {qs : List Qd} {ls : List Nat} {q : Qd} (h : LsAt C w cv lv qs ls) (b1 : Bl w w1) (gr1 : w1.grownBy w2 cv.ownBlock) (o1 : w2.ownsRow C 60 1 (.slice (some ⟨g1, 0, none⟩) n1 c1) (qs.length + 1) (qs.map Qd.v ++ [q.v])) (p1 : cv.ownBlock = some g1 ∨ g1 = w1.heap.size) (b3 : Bl w2 w3) (gr2 : w3.grownBy w4 lv.ownBlock) (o2 : w4.ownsRow C 3 1 (.slice (some ⟨g2, 0, none⟩) n2 c2) (ls.length + 1) (ls.map nV ++ [nV x])) (p2 : lv.ownBlock = some g2 ∨ g2 = w3.heap.size) (hq : QX w1 (fun b => b < w.heap.size) q) : LsAt C w4 (.slice (some ⟨g1, 0, none⟩) n1 c1) (.slice (some ⟨g2, 0, none⟩) n2 c2) (qs ++ [q]) (ls ++ [x]) ∧ Below C w w4 := by
  have s1 := b1.size
  have s2 := gr1.size
  have s3 := b3.size
  have s4 := gr2.size
  have kc : ∀ b, cv.ownBlock = some b → C ≤ b ∧ b < w.heap.size := fun b hb => ⟨own_newB h.oc b hb, own_lt h.oc b hb⟩
  have kl : ∀ b, lv.ownBlock = some b → C ≤ b ∧ b < w.heap.size := fun b hb => ⟨own_newB h.ol b hb, own_lt h.ol b hb⟩
  have hg1 : g1 < w2.heap.size := (own_lt o1 g1 rfl)
  have hf : ¬ lv.ownBlock = some g1 := fun e => by
    rcases p1 with p | p
    · exact h.far g1 p e
    · have := (kl g1 e).2; omega
  refine ⟨h.next (fun b hb hn => grow_two b1 gr1 b3 gr2 b hb (fun e => hn (Or.inl e.symm)) (fun e => hn (Or.inr e.symm))) (grw_of p1 s1) (grw_of p2 (by omega)) (own_kept (own_below o1 b3) gr2 (Or.inr fun e => hf (by rw [← e]; rfl))) o2 (fun k hk e => ?_) (hq.move (fun b hb hn => ?_) (fun b hb hn => ?_)) (by omega), ?_⟩
  · have e1 : g1 = k := Option.some.inj hk
    have e2 : g2 = k := Option.some.inj e
    rcases p2 with p | p
    · exact hf (by rw [p, e1, e2])
    · omega
  · exact (gr2.block b (by omega) (fun e => by have := (kl b e.symm).2; omega)).trans ((b3.block b (by omega)).trans (gr1.block b hb (fun e => by have := (kc b e.symm).2; omega)))
  · rintro (e | e)
    · have e1 : g1 = b := Option.some.inj e
      rcases p1 with p | p
      · have := (kc g1 p).2; omega
      · omega
    · have e1 : g2 = b := Option.some.inj e
      rcases p2 with p | p
      · have := (kl g2 p).2; omega
      · omega
  · have hle := h.le
    have t1 : Below C w w1 := b1.mono hle
    have t2 : Below C w1 w2 := grow_low gr1 (by omega) (fun k hk => (kc k hk).1)
    have t3 : Below C w2 w3 := b3.mono (by omega)
    have t4 : Below C w3 w4 := grow_low gr2 (by omega) (fun k hk => (kl k hk).1)
    exact t1.trans (t2.trans (t3.trans t4))
/-- the depths grow, then the cuts -/
theorem LsAt.both2 {C g1 n1 c1 g2 n2 c2 x : Nat} {w w1 w2 w3 w4 : World} {cv lv : Value} {qs : List Qd} {ls : List Nat} {q : Qd} (h : LsAt C w cv lv qs ls) (b1 : Bl w w1) (gr1 : w1.grownBy w2 lv.ownBlock) (p2 : lv.ownBlock = some g2 ∨ g2 = w1.heap.size) (b3 : Below w.heap.size w2 w3) (o3 : w3.ownsRow C 3 1 (.slice (some ⟨g2, 0, none⟩) n2 c2) (ls.length + 1) (ls.map nV ++ [nV x])) (gr2 : w3.grownBy w4 cv.ownBlock) (o1 : w4.ownsRow C 60 1 (.slice (some ⟨g1, 0, none⟩) n1 c1) (qs.length + 1) (qs.map Qd.v ++ [q.v])) (p1 : cv.ownBlock = some g1 ∨ g1 = w3.heap.size) (hq : QX w3 (fun b => b < w.heap.size ∨ b = g2) q) : LsAt C w4 (.slice (some ⟨g1, 0, none⟩) n1 c1) (.slice (some ⟨g2, 0, none⟩) n2 c2) (qs ++ [q]) (ls ++ [x]) ∧ Below C w w4 := by
  have s1 := b1.size
  have s2 := gr1.size
  have s3 := b3.size
  have s4 := gr2.size
  have kc : ∀ b, cv.ownBlock = some b → C ≤ b ∧ b < w.heap.size := fun b hb => ⟨own_newB h.oc b hb, own_lt h.oc b hb⟩
  have kl : ∀ b, lv.ownBlock = some b → C ≤ b ∧ b < w.heap.size := fun b hb => ⟨own_newB h.ol b hb, own_lt h.ol b hb⟩
  have hg2 : g2 < w3.heap.size := own_lt o3 g2 rfl
  have hf : ¬ cv.ownBlock = some g2 := fun e => by
    rcases p2 with p | p
    · exact h.far g2 e p
    · have := (kc g2 e).2; omega
  refine ⟨h.next (fun b hb hn => ?_) (grw_of p1 (by omega)) (grw_of p2 s1) o1 (own_kept o3 gr2 (Or.inr fun e => hf (by rw [← e]; rfl))) (fun k hk e => ?_) (hq.move (fun b hb hn => ?_) (fun b hb hn => ?_)) (by omega), ?_⟩
  · exact (gr2.block b (by omega) (fun e => hn (Or.inl e.symm))).trans ((b3.block b hb).trans ((gr1.block b (by omega) (fun e => hn (Or.inr e.symm))).trans (b1.block b hb)))
  · have e1 : g1 = k := Option.some.inj hk
    have e2 : g2 = k := Option.some.inj e
    rcases p1 with p | p
    · exact hf (by rw [p, e1, e2])
    · omega
  · exact gr2.block b hb (fun e => hn (Or.inl (kc b e.symm).2))
  · rintro (e | e)
    · have e1 : g1 = b := Option.some.inj e
      rcases p1 with p | p
      · exact hn (Or.inl (by have := (kc g1 p).2; omega))
      · omega
    · exact hn (Or.inr (Option.some.inj e).symm)
  · have hle := h.le
    have t1 : Below C w w1 := b1.mono hle
    have t2 : Below C w1 w2 := grow_low gr1 (by omega) (fun k hk => (kl k hk).1)
    have t3 : Below C w2 w3 := b3.mono hle
    have t4 : Below C w3 w4 := grow_low gr2 (by omega) (fun k hk => (kc k hk).1)
    exact t1.trans (t2.trans (t3.trans t4))
/-- the cuts of sources -/
def cutS (v : Nat) : List (List Nat) := if v = 0 then [[]] else [[v]]
theorem cutsD_start {G : Gr} {qs : List Qd} {ls : List Nat} (h : ∀ v, v < G.first → (qs.map Qd.ls).getD v [] = cutS v) : CutsD G G.first (fun v => (qs.map Qd.ls).getD v []) (fun v => ls.getD v 0) := by
  refine ⟨h 0 G.pos, fun v h1 h2 => ?_, fun v h1 h2 => by omega, fun v h1 h2 => by omega⟩
  show (qs.map Qd.ls).getD v [] = _
  rw [h v h2]; unfold cutS; rw [if_neg (by omega)]
/-- the rows of what is gathered, apart from where it is gathered -/
def HDX (H : Nat) (w : World) (al : Value) (hs : List Hd) : Prop := ∀ h, h ∈ hs → NumX w (fun b => b < H ∨ al.ownBlock = some b) h.a h.l ∧ h.l.length ≤ 4
theorem HDX.to {H : Nat} {w w' : World} {al : Value} {hs : List Hd} (h : HDX H w al hs) (hb : Bl w w') : HDX H w' al hs := fun x hx => ⟨(h x hx).1.move (fun b hb1 _ => hb.block b hb1) (fun _ _ hn => hn), (h x hx).2⟩
theorem HDX.at_ {H : Nat} {w : World} {al : Value} {hs : List Hd} (h : HDX H w al hs) : HdsAt w hs := fun x hx => ⟨(h x hx).1.num, (h x hx).2⟩
theorem HDX.add {H : Nat} {w w' : World} {al al' : Value} {hs hs' : List Hd} {c : Hd} (h : HDX H w al hs) (hb : Bl w w') (hc : NumX w (fun b => b < H) c.a c.l) (hcl : c.l.length ≤ 4) (hn : NewB w.heap.size al') (hm : ∀ x, x ∈ hs' → x ∈ hs ∨ x = c) : HDX H w' al' hs' := fun x hx => by
  rcases hm x hx with hm | rfl
  · refine ⟨(h x hm).1.move (fun b hb1 _ => hb.block b hb1) (fun b hb1 hnx => ?_), (h x hm).2⟩
    rintro (e | e)
    · exact hnx (Or.inl e)
    · have := hn b e; omega
  · refine ⟨hc.move (fun b hb1 _ => hb.block b hb1) (fun b hb1 hnx => ?_), hcl⟩
    rintro (e | e)
    · exact hnx e
    · have := hn b e; omega
/-- what is gathered, when the depths have grown -/
theorem ls_gate1 {C H bA nh gc : Nat} {wi wr w1 w2 w3 : World} {cv lv : Value} {qs : List Qd} {ls : List Nat} {hs : List Hd} (h : LsAt C wi cv lv qs ls) (hH : H = wi.heap.size) (ho : wr.ownsRow H 24 1 (.slice (some ⟨bA, 0, none⟩) nh gc) nh (hs.map Hd.v)) (b1 : Bl wr w1) (gr : w1.grownBy w2 lv.ownBlock) (b3 : Bl w2 w3) : w3.ownsRow H 24 1 (.slice (some ⟨bA, 0, none⟩) nh gc) nh (hs.map Hd.v) :=
  own_below (own_kept (own_below ho b1) gr (Or.inr fun e => by
    have h1 := own_newB ho bA rfl
    have h2 := own_lt h.ol bA (by rw [← e]; rfl)
    omega)) b3
theorem ls_gate2 {C H bA nh gc : Nat} {wi wr w1 w2 w3 w5 : World} {cv lv : Value} {qs : List Qd} {ls : List Nat} {hs : List Hd} (h : LsAt C wi cv lv qs ls) (hH : H = wi.heap.size) (hb : Bl wi wr) (ho : wr.ownsRow H 24 1 (.slice (some ⟨bA, 0, none⟩) nh gc) nh (hs.map Hd.v)) (b1 : Bl wr w1) (gr : w1.grownBy w2 lv.ownBlock) (b3 : Bl w2 w3) (g5 : w3.grownBy w5 (some bA)) : w5.ownsRow C 60 1 cv qs.length (qs.map Qd.v) ∧ C ≤ w5.heap.size := by
  refine ⟨own_kept (own_below (own_kept (own_below (own_below h.oc hb) b1) gr ?_) b3) g5 ?_, ?_⟩
  · cases e : cv.ownBlock with
    | none => exact Or.inl rfl
    | some b => exact Or.inr (fun e2 => h.far b e e2.symm)
  · cases e : cv.ownBlock with
    | none => exact Or.inl rfl
    | some b =>
      refine Or.inr (fun e2 => ?_)
      have h1 := own_newB ho bA rfl
      have h2 := own_lt h.oc b e
      have := Option.some.inj e2
      omega
  · have := h.le; have := hb.size; have := b1.size; have := gr.size; have := b3.size; have := g5.size; omega
theorem ls_gate {C H bA nh gc bc n0 c0 g1 n1 c1 g2 n2 c2 g5 c5 P N x : Nat} {wi wr w1 w2 w3 w5 w6 w7 : World} {lv : Value} {qs : List Qd} {ls : List Nat} {hs : List Hd} (h : LsAt C wi (.slice (some ⟨bc, 0, none⟩) n0 c0) lv qs ls) (hH : H = wi.heap.size) (hb : Bl wi wr) (ho : wr.ownsRow H 24 1 (.slice (some ⟨bA, 0, none⟩) nh gc) nh (hs.map Hd.v)) (hd : HDX H wr (.slice (some ⟨bA, 0, none⟩) nh gc) hs) (hnh : nh = hs.length) (b1 : Bl wr w1) (gr : w1.grownBy w2 lv.ownBlock) (o2 : w2.ownsRow C 3 1 (.slice (some ⟨g2, 0, none⟩) n2 c2) (ls.length + 1) (ls.map nV ++ [nV x])) (p2 : lv.ownBlock = some g2 ∨ g2 = w1.heap.size) (b3 : Bl w2 w3) (kP : Blk w3 P 3 #[.int .i64 (N : Nat)]) (hP : w2.heap.size ≤ P) (r5 : w3.grownBy w5 (some bA)) (o5 : w5.ownsRow H 24 1 (.slice (some ⟨g5, 0, none⟩) (nh + 1) c5) (nh + 1) (hs.map Hd.v ++ [.slice (some ⟨P, 0, none⟩) 1 1])) (p5 : some bA = some g5 ∨ g5 = w3.heap.size) (b6 : Bl w5 w6) (r7 : w6.grownBy w7 (some bc)) (o7 : w7.ownsRow C 60 1 (.slice (some ⟨g1, 0, none⟩) n1 c1) (qs.length + 1) (qs.map Qd.v ++ [.slice (some ⟨g5, 0, none⟩) (nh + 1) c5])) (p7 : some bc = some g1 ∨ g1 = w6.heap.size) :
    LsAt C w7 (.slice (some ⟨g1, 0, none⟩) n1 c1) (.slice (some ⟨g2, 0, none⟩) n2 c2) (qs ++ [⟨some ⟨g5, 0, none⟩, c5, hs ++ [⟨some ⟨P, 0, none⟩, 1, [N]⟩]⟩]) (ls ++ [x]) ∧ Below C wi w7 := by
  have hA1 := own_newB ho bA rfl
  have hA2 := own_lt ho bA rfl
  have hg2 := own_lt o2 g2 rfl
  have hg5 := own_newB o5 g5 rfl
  have hg5l := own_lt o5 g5 rfl
  have s0 := hb.size
  have s1 := b1.size
  have s2 := gr.size
  have s3 := b3.size
  have s5 := r5.size
  have s6 := b6.size
  have hPl := kP.lt
  have klv : ∀ b, lv.ownBlock = some b → b < H := fun b e => by rw [hH]; exact own_lt h.ol b e
  have g2A : g2 ≠ bA := fun e => by
    rcases p2 with p | p
    · have := klv g2 p; omega
    · omega
  have g25 : g5 ≠ g2 := fun e => by
    rcases p5 with p | p
    · exact g2A (e.symm.trans (Option.some.inj p).symm)
    · omega
  have same : ∀ b, H ≤ b → b < wr.heap.size → b ≠ bA → w6.heap[b]? = wr.heap[b]? := fun b h1 h2 h3 => by
    refine (b6.block b (by omega)).trans ((r5.block b (by omega) (fun e => h3 (Option.some.inj e))).trans ((b3.block b (by omega)).trans ((gr.block b (by omega) (fun e => ?_)).trans (b1.block b h2))))
    have := klv b e.symm; omega
  refine h.both2 (q := ⟨some ⟨g5, 0, none⟩, c5, hs ++ [⟨some ⟨P, 0, none⟩, 1, [N]⟩]⟩) (hb.trans (b1.mono s0)) gr p2 ?_ (own_below (own_kept (own_below o2 b3) r5 (Or.inr fun e => g2A (Option.some.inj e))) b6) r7 ?_ p7 ?_
  · have t1 : Below wi.heap.size w2 w3 := b3.mono (by omega)
    have t2 : Below wi.heap.size w3 w5 := grow_low r5 (by omega) (fun k hk => by have := Option.some.inj hk; omega)
    exact t1.trans (t2.trans (b6.mono (by omega)))
  · show World.ownsRow _ _ _ _ _ _ (qs.map Qd.v ++ [.slice (some ⟨g5, 0, none⟩) (hs ++ [_]).length c5])
    rw [List.length_append, List.length_singleton, ← hnh]
    exact o7
  · refine ⟨fun k x hk => ?_, fun x hx => ?_⟩
    · have o5' : w5.ownsRow H 24 1 (.slice (some ⟨g5, 0, none⟩) (nh + 1) c5) (nh + 1) ((hs ++ [(⟨some ⟨P, 0, none⟩, 1, [N]⟩ : Hd)]).map Hd.v) := by rw [List.map_append]; exact o5
      obtain ⟨a, c, e, _, hc⟩ := own_g o5'
      obtain ⟨b, e2, c2⟩ := hc k x hk
      simp only [Value.slice.injEq, true_and] at e
      rw [← e.1] at e2
      simp only [Option.some.injEq, Addr.mk.injEq, and_true] at e2
      subst e2
      refine ⟨g5, 0, rfl, ?_, ?_⟩
      · rintro (h1 | h1)
        · omega
        · exact g25 h1
      · rw [Nat.zero_add]
        exact (b6.cell (p := ⟨g5, k, none⟩) hg5l).trans c2
    · rcases List.mem_append.1 hx with hx | hx
      · refine ⟨(hd x hx).1.move (fun b hb1 hn => same b (by omega) hb1 (fun e => hn (Or.inr (by rw [e]; rfl)))) (fun b hb1 hn => ?_), (hd x hx).2⟩
        rintro (h1 | h1)
        · exact hn (Or.inl (by omega))
        · rcases p2 with p | p
          · exact hn (Or.inl (by have := klv g2 p; omega))
          · omega
      · obtain rfl := List.mem_singleton.1 hx
        refine ⟨fun k y hk => ?_, by simp⟩
        cases k with
        | zero =>
          obtain rfl := Option.some.inj hk
          refine ⟨P, 0, rfl, ?_, ?_⟩
          · rintro (h1 | h1) <;> omega
          · have k5 : Blk w5 P 3 #[.int .i64 (N : Nat)] := blk_kept kP r5 (fun e => by have := Option.some.inj e; omega)
            exact (k5.below b6).cell (i := 0) rfl
        | succ k => simp at hk
end Go.Proofs.Ytlaljeobdddegaa
