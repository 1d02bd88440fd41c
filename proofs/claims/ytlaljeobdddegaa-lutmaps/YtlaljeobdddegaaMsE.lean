import Derived.Test.YtlaljeobdddegaaMsD
namespace Go.Proofs.Ytlaljeobdddegaa
open Go.RowKit Mp

theorem cell_same {w w' : World} {b : Nat} (h : w'.heap[b]? = w.heap[b]?) (i : Nat) : w'.cell? ⟨b, i, none⟩ = w.cell? ⟨b, i, none⟩ := by
  simp [World.cell?, h]
/-- rows that lie apart -/
def NumX (w : World) (X : Nat → Prop) (a : Option Addr) (l : List Nat) : Prop := ∀ (k x : Nat), l[k]? = some x → ∃ b o, a = some ⟨b, o, none⟩ ∧ ¬ X b ∧ w.cell? ⟨b, o + k, none⟩ = some (.int .i64 (x : Nat))
structure Qd where
  a : Option Addr
  c : Nat
  hs : List Hd
def Qd.v (q : Qd) : Value := .slice q.a q.hs.length q.c
def Qd.ls (q : Qd) : List (List Nat) := q.hs.map Hd.l
structure QX (w : World) (X : Nat → Prop) (q : Qd) : Prop where
  r : ∀ (k : Nat) (h : Hd), q.hs[k]? = some h → ∃ b o, q.a = some ⟨b, o, none⟩ ∧ ¬ X b ∧ w.cell? ⟨b, o + k, none⟩ = some h.v
  h : ∀ h, h ∈ q.hs → NumX w X h.a h.l ∧ h.l.length ≤ 4
theorem NumX.move {w w' : World} {X X' : Nat → Prop} {a : Option Addr} {l : List Nat} (h : NumX w X a l) (hb : ∀ b, b < w.heap.size → ¬ X b → w'.heap[b]? = w.heap[b]?) (hx : ∀ b, b < w.heap.size → ¬ X b → ¬ X' b) : NumX w' X' a l := fun k x hk => by
  obtain ⟨b, o, e, nx, c⟩ := h k x hk
  exact ⟨b, o, e, hx b (cell_lt c) nx, (cell_same (hb b (cell_lt c) nx) _).trans c⟩
theorem QX.move {w w' : World} {X X' : Nat → Prop} {q : Qd} (h : QX w X q) (hb : ∀ b, b < w.heap.size → ¬ X b → w'.heap[b]? = w.heap[b]?) (hx : ∀ b, b < w.heap.size → ¬ X b → ¬ X' b) : QX w' X' q := by
  refine ⟨fun k h' hk => ?_, fun h' hh => ⟨(h.h h' hh).1.move hb hx, (h.h h' hh).2⟩⟩
  obtain ⟨b, o, e, nx, c⟩ := h.r k h' hk
  exact ⟨b, o, e, hx b (cell_lt c) nx, (cell_same (hb b (cell_lt c) nx) _).trans c⟩
theorem NumX.num {w : World} {X : Nat → Prop} {a : Option Addr} {l : List Nat} (h : NumX w X a l) : NumR w a l := fun k x hk => by
  obtain ⟨b, o, e, _, c⟩ := h k x hk
  exact ⟨b, o, e, c⟩
def XB (cv lv : Value) (b : Nat) : Prop := cv.ownBlock = some b ∨ lv.ownBlock = some b
/-- the cuts and the depths, as Least keeps them -/
structure LsAt (C : Nat) (w : World) (cv lv : Value) (qs : List Qd) (ls : List Nat) : Prop where
  oc : w.ownsRow C 60 1 cv qs.length (qs.map Qd.v)
  ol : w.ownsRow C 3 1 lv ls.length (ls.map nV)
  far : FaV cv lv
  q : ∀ q, q ∈ qs → QX w (XB cv lv) q
  le : C ≤ w.heap.size
theorem LsAt.to {C : Nat} {w w' : World} {cv lv : Value} {qs : List Qd} {ls : List Nat} (h : LsAt C w cv lv qs ls) (hb : Bl w w') : LsAt C w' cv lv qs ls :=
  ⟨own_below h.oc hb, own_below h.ol hb, h.far, fun q hq => (h.q q hq).move (fun b hb1 _ => hb.block b hb1) (fun _ _ hn => hn), Nat.le_trans h.le hb.size⟩
/-- a value that grew, or lies anew -/
def Grw (H : Nat) (v v' : Value) : Prop := v'.ownBlock = v.ownBlock ∨ ∃ s, H ≤ s ∧ v'.ownBlock = some s
theorem Grw.old {H : Nat} {v v' : Value} (h : Grw H v v') {b : Nat} (hb : b < H) (hn : ¬ v.ownBlock = some b) : ¬ v'.ownBlock = some b := by
  rcases h with h | ⟨s, hs, h⟩
  · rw [h]; exact hn
  · rw [h]; intro e; have := Option.some.inj e; omega
theorem LsAt.next {C : Nat} {w w' : World} {cv lv cv' lv' : Value} {qs : List Qd} {ls : List Nat} {q : Qd} {x : Nat} (h : LsAt C w cv lv qs ls) (hb : ∀ b, b < w.heap.size → ¬ XB cv lv b → w'.heap[b]? = w.heap[b]?) (g1 : Grw w.heap.size cv cv') (g2 : Grw w.heap.size lv lv') (oc : w'.ownsRow C 60 1 cv' (qs.length + 1) (qs.map Qd.v ++ [q.v])) (ol : w'.ownsRow C 3 1 lv' (ls.length + 1) (ls.map nV ++ [nV x])) (far : FaV cv' lv') (hq : QX w' (XB cv' lv') q) (hs : w.heap.size ≤ w'.heap.size) : LsAt C w' cv' lv' (qs ++ [q]) (ls ++ [x]) := by
  refine ⟨by rw [List.length_append, List.map_append]; exact oc, by rw [List.length_append, List.map_append]; exact ol, far, fun r hr => ?_, Nat.le_trans h.le hs⟩
  rcases List.mem_append.1 hr with hr | hr
  · refine (h.q r hr).move hb (fun b hb1 hn => ?_)
    rintro (e | e)
    · exact g1.old hb1 (fun e' => hn (Or.inl e')) e
    · exact g2.old hb1 (fun e' => hn (Or.inr e')) e
  · obtain rfl := List.mem_singleton.1 hr
    exact hq
/-- a source's cuts: itself -/
theorem QX.one {w : World} {X : Nat → Prop} {x1 x2 v : Nat} {t1 t2 : TypeId} (h1 : Blk w x1 t1 #[.int .i64 (v : Nat)]) (h2 : Blk w x2 t2 #[.slice (some ⟨x1, 0, none⟩) 1 1]) (n1 : ¬ X x1) (n2 : ¬ X x2) : QX w X ⟨some ⟨x2, 0, none⟩, 1, [⟨some ⟨x1, 0, none⟩, 1, [v]⟩]⟩ := by
  refine ⟨fun k h hk => ?_, fun h hh => ?_⟩
  · cases k with
    | zero =>
      obtain rfl := Option.some.inj hk
      exact ⟨x2, 0, rfl, n2, h2.cell (i := 0) rfl⟩
    | succ k => simp at hk
  · obtain rfl := List.mem_singleton.1 hh
    refine ⟨fun k x hk => ?_, by simp⟩
    cases k with
    | zero =>
      obtain rfl := Option.some.inj hk
      exact ⟨x1, 0, rfl, n1, h1.cell (i := 0) rfl⟩
    | succ k => simp at hk
theorem QX.zero {w : World} {X : Nat → Prop} {x2 : Nat} {t2 : TypeId} (h2 : Blk w x2 t2 #[.slice none 0 0]) (n2 : ¬ X x2) : QX w X ⟨some ⟨x2, 0, none⟩, 1, [⟨none, 0, []⟩]⟩ := by
  refine ⟨fun k h hk => ?_, fun h hh => ?_⟩
  · cases k with
    | zero =>
      obtain rfl := Option.some.inj hk
      exact ⟨x2, 0, rfl, n2, h2.cell (i := 0) rfl⟩
    | succ k => simp at hk
  · obtain rfl := List.mem_singleton.1 hh
    exact ⟨fun k x hk => by simp at hk, by simp⟩
/-- two rows grow, one behind the other: what is else stays -/
theorem grow_two {w w1 w2 w3 w4 : World} {ra rb : Option Nat} (h1 : Bl w w1) (h2 : w1.grownBy w2 ra) (h3 : Bl w2 w3) (h4 : w3.grownBy w4 rb) : ∀ b, b < w.heap.size → some b ≠ ra → some b ≠ rb → w4.heap[b]? = w.heap[b]? := fun b hb na nb => by
  have s1 := h1.size
  have s2 := h2.size
  have s3 := h3.size
  exact (h4.block b (by omega) nb).trans ((h3.block b (by omega)).trans ((h2.block b (by omega) na).trans (h1.block b hb)))
def lstV (F : Nat) (label : Nat → Nat) (es : List Int) : Nat := es.foldl (fun d x => max d (dofL F label x.toNat)) 0
theorem lstV_next {F : Nat} {label : Nat → Nat} {es : List Int} {k : Nat} {x : Int} (h : es[k]? = some x) : lstV F label (es.take (k + 1)) = max (lstV F label (es.take k)) (dofL F label x.toNat) := by
  unfold lstV; rw [take_next _ _ _ h, List.foldl_append]; rfl
end Go.Proofs.Ytlaljeobdddegaa
