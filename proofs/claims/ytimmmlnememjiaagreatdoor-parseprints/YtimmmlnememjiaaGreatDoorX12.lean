import Derived.Test.YtimmmlnememjiaaGreatDoorX
import Derived.Test.YtimmmlnememjiaaGreatDoorX09
set_option maxRecDepth 100000
set_option maxHeartbeats 16000000
namespace Go.Proofs.YtimmmlnememjiaaGreatDoor
open Go.RowKit
theorem heap_lt {w : World} {b : Nat} {o : Obj} (h : w.heap[b]? = some o) : b < w.heap.size := by
 rcases Nat.lt_or_ge b w.heap.size with h1 | h1
 ·exact h1
 ·rw [Array.getElem?_eq_none h1] at h; cases h
theorem Kq.get {x : Nat} {w w' : World} (h : Kq x w w') {k : Nat} {o : Obj} (hk : k ≠ x) (hb : w.heap[k]? = some o) : w'.heap[k]? = some o := (h.block k (heap_lt hb) hk).trans hb
theorem Kq.sx {x br : Nat} {s : ByteArray} {w w' : World} {c : Int} {m : Nat} (h : Kq x w w') (hx : br ≠ x) (hs : Sx br s w c m) : Sx br s w' c m := hs.to (h.block br hs.lt hx)
structure Kq2 (x y : Nat) (w w' : World) : Prop where
 os : w'.os = w.os
 tape : w'.tape = w.tape
 output : w'.output = w.output
 size : w.heap.size ≤ w'.heap.size
 block : ∀ k, k < w.heap.size → k ≠ x → k ≠ y → w'.heap[k]? = w.heap[k]?
theorem Kq2.get {x y : Nat} {w w' : World} (h : Kq2 x y w w') {k : Nat} {o : Obj} (hk : k ≠ x) (hk' : k ≠ y) (hb : w.heap[k]? = some o) : w'.heap[k]? = some o := (h.block k (heap_lt hb) hk hk').trans hb
theorem Kq2.sx {x y br : Nat} {s : ByteArray} {w w' : World} {c : Int} {m : Nat} (h : Kq2 x y w w') (hx : br ≠ x) (hy : br ≠ y) (hs : Sx br s w c m) : Sx br s w' c m := hs.to (h.block br hs.lt hx hy)
theorem Kq.comp {br x : Nat} {a w w' : World} (h : Kq br a w) (k : Kq x w w') (hx : x = br ∨ a.heap.size ≤ x) : Kq br a w' :=
 ⟨k.os.trans h.os, k.tape.trans h.tape, k.output.trans h.output, Nat.le_trans h.size k.size, fun i hi hn => (k.block i (Nat.lt_of_lt_of_le hi h.size) (by omega)).trans (h.block i hi hn)⟩
theorem Kq.comp2 {br x y : Nat} {a w w' : World} (h : Kq br a w) (k : Kq2 x y w w') (hx : x = br ∨ a.heap.size ≤ x) (hy : y = br ∨ a.heap.size ≤ y) : Kq br a w' :=
 ⟨k.os.trans h.os, k.tape.trans h.tape, k.output.trans h.output, Nat.le_trans h.size k.size, fun i hi hn => (k.block i (Nat.lt_of_lt_of_le hi h.size) (by omega) (by omega)).trans (h.block i hi hn)⟩
theorem RowOf.strong {S : Nat → Prop} {w : World} {sz : Nat} {v : Value} {xs : List (List Value)} (hsz : 0 < sz) (h : RowOf S w sz v xs) : RowOf (fun b => S b ∧ b < w.heap.size) w sz v xs := by
 rcases h with h | ⟨b, cap, hv, hb, hc, hn, hx⟩
 ·exact .inl h
 ·refine .inr ⟨b, cap, hv, ⟨hb, ?_⟩, hc, hn, hx⟩
  cases xs with
  | nil => exact absurd rfl hn
  | cons x r =>
   obtain ⟨h1, h2⟩ := hx 0 x rfl
   have h3 : x[0]? = some (x[0]'(by omega)) := List.getElem?_eq_getElem (by omega)
   exact cell_lt (h2 0 _ h3)
theorem PS.strong {S : Nat → Prop} {w : World} {cs : List Value} {t : List UInt8} (h : PS S w cs t) : PS (fun b => S b ∧ b < w.heap.size) w cs t := by
 induction h with
 | node k a later nm xs vx ss vs ar va hk hx hxe hs _ ha hal _ ihs iha =>
  exact PS.node k a later nm xs vx ss vs ar va hk (hx.strong (by decide)) (fun x h => (hxe x h).strong) (hs.strong (by decide)) ihs (ha.strong (by decide)) (fun d h => ⟨(hal d h).1.strong (by decide), fun x hx => ((hal d h).2 x hx).strong⟩) iha
theorem PS.len {S : Nat → Prop} {w : World} {cs : List Value} {t : List UInt8} (h : PS S w cs t) : cs.length = 7 := by
 cases h; rfl
structure Elt (α : Type) where
 T : TypeId
 sz : Nat
 cells : α → List Value
 P : (Nat → Prop) → World → α → Prop
 pos : 0 < sz
 mono : ∀ {S S' : Nat → Prop} {w w' : World} {x : α}, (∀ b, S b → S' b) → (∀ b o v, S b → w.cell? ⟨b, o, none⟩ = some v → w'.cell? ⟨b, o, none⟩ = some v) → P S w x → P S' w' x
 strong : ∀ {S : Nat → Prop} {w : World} {x : α}, P S w x → P (fun b => S b ∧ b < w.heap.size) w x
 len : ∀ {S : Nat → Prop} {w : World} {x : α}, P S w x → (cells x).length = sz
def elE : Elt Ele where
 T := 55
 sz := 7
 cells x := x.2.1
 P S w x := PE S w x.1 x.2.1 x.2.2
 pos := by decide
 mono h1 h2 h := h.mono h1 h2
 strong h := h.strong
 len h := h.len
def elS : Elt (List Value × List UInt8) where
 T := 93
 sz := 7
 cells x := x.1
 P S w x := PS S w x.1 x.2
 pos := by decide
 mono h1 h2 h := h.mono h1 h2
 strong h := h.strong
 len h := h.len
def armCells (d : ArmD) : List Value := .bool d.dflt :: d.vl :: d.body
def elA : Elt ArmD where
 T := 127
 sz := 9
 cells := armCells
 P S w d := (RowOf S w 7 d.vl (d.labels.map (fun x : Ele => x.2.1)) ∧ ∀ x ∈ d.labels, PE S w x.1 x.2.1 x.2.2) ∧ PS S w d.body d.tb
 pos := by decide
 mono h1 h2 h := ⟨⟨h.1.1.mono h1 h2, fun x hx => (h.1.2 x hx).mono h1 h2⟩, h.2.mono h1 h2⟩
 strong h := ⟨⟨h.1.1.strong (by decide), fun x hx => (h.1.2 x hx).strong⟩, h.2.strong⟩
 len h := by have := h.2.len; simp [armCells, this]
variable {α : Type}
theorem Elt.moved (E : Elt α) {S : Nat → Prop} {w w' : World} {x : α} (h : E.P S w x) (hb : ∀ k o, S k → w.heap[k]? = some o → w'.heap[k]? = some o) : E.P S w' x := by
 refine E.mono (fun b h => h.1) ?_ (E.strong h)
 intro b o v hS hu
 have hl := hS.2
 have h1 := hb b (w.heap[b]) hS.1 (Array.getElem?_eq_getElem hl)
 rw [World.cell?_of_block (a := ⟨b, o, none⟩) (h1.trans (Array.getElem?_eq_getElem hl).symm)]; exact hu
def Rw (E : Elt α) (S : Nat → Prop) (L : Nat) (w : World) (v : Value) (es : List α) : Prop :=
 w.ownsRow L E.T E.sz v es.length (es.flatMap E.cells) ∧ (∀ g, v.ownBlock = some g → S g) ∧ (∀ x ∈ es, E.P (fun b => S b ∧ some b ≠ v.ownBlock) w x) ∧ (es = [] → v = .slice none 0 0)
theorem Rw.nil (E : Elt α) (S : Nat → Prop) (L : Nat) (w : World) : Rw E S L w (.slice none 0 0) [] := ⟨World.ownsRow_nil w L E.T E.sz, fun g h => by simp [Value.ownBlock] at h, fun x h => by (cases h), fun _ => rfl⟩
theorem Rw.to {E : Elt α} {S : Nat → Prop} {L : Nat} {w w' : World} {v : Value} {es : List α} (h : Rw E S L w v es) (hb : ∀ k o, S k → w.heap[k]? = some o → w'.heap[k]? = some o) : Rw E S L w' v es := by
 refine ⟨⟨h.1.1, ?_⟩, h.2.1, fun x hx => ?_, h.2.2.2⟩
 ·rcases h.1.2 with h0 | ⟨g, cap, cur, hv, hL, hg, hr⟩
  ·exact .inl h0
  ·refine .inr ⟨g, cap, cur, hv, hL, ?_, hr⟩
   exact hb g _ (h.2.1 g (by rw [hv]; rfl)) hg
 ·exact E.moved (h.2.2.1 x hx) (fun k o hk ho => hb k o hk.1 ho)
theorem Rw.form {E : Elt α} {S : Nat → Prop} {L : Nat} {w : World} {sa : Option Addr} {n cap : Nat} {es : List α} (h : Rw E S L w (.slice sa n cap) es) (hn : 1 ≤ es.length) : ∃ g, sa = some ⟨g, 0, none⟩ ∧ n = es.length ∧ L ≤ g ∧ S g ∧ g < w.heap.size := by
 obtain ⟨g, cap', e, h1, h2⟩ := h.1.form hn
 cases e; exact ⟨g, rfl, rfl, h1, h.2.1 g rfl, h2⟩
theorem flat_getN {α : Type} (f : α → List Value) (sz : Nat) (es : List α) (h7 : ∀ x ∈ es, (f x).length = sz) (i j : Nat) (hj : j < sz) : (es.flatMap f)[i * sz + j]? = (es[i]?).bind fun x => (f x)[j]? := by
 induction es generalizing i with
 | nil => simp
 | cons y r ih =>
  have hy := h7 y (by simp)
  rw [List.flatMap_cons]
  cases i with
  | zero =>
   rw [List.getElem?_append_left (by omega)]; simp
  | succ i =>
   have e1 : (i + 1) * sz + j = sz + (i * sz + j) := by rw [Nat.succ_mul]; omega
   rw [e1, List.getElem?_append_right (by omega), hy, Nat.add_sub_cancel_left, ih (fun x hx => h7 x (by simp [hx]))]
   simp
theorem Rw.row {E : Elt α} {S : Nat → Prop} {L : Nat} {w : World} {v : Value} {es : List α} (h : Rw E S L w v es) : RowOf S w E.sz v (es.map E.cells) ∧ ∀ x ∈ es, E.P S w x := by
 refine ⟨?_, fun x hx => E.mono (fun b hb => hb.1) (fun b o u _ hu => hu) (h.2.2.1 x hx)⟩
 by_cases hn : es = []
 ·exact .inl ⟨h.2.2.2 hn, by rw [hn]; rfl⟩
 have hn1 : 0 < es.length := List.length_pos_iff.2 hn
 rcases h.1.2 with ⟨_, h0⟩ | ⟨g, cap, cur, hv, hL, hg, hc, _, hsz, htk⟩
 ·omega
 ·have hSg := h.2.1 g (by rw [hv]; rfl)
  have h7 : ∀ y ∈ es, (E.cells y).length = E.sz := fun y hy => E.len (h.2.2.1 y hy)
  refine .inr ⟨g, cap, by rw [List.length_map]; exact hv, hSg, by rw [List.length_map]; exact hc, ?_, fun i x hi => ?_⟩
  ·intro e
   have := congrArg List.length e
   rw [List.length_map] at this
   simp only [lnN] at this
   omega
  ·rw [List.getElem?_map] at hi
   obtain ⟨y, hy, rfl⟩ := Option.map_eq_some_iff.1 hi
   have hy7 := h7 y (List.mem_of_getElem? hy)
   refine ⟨hy7, fun j u hu => ?_⟩
   have hj : j < E.sz := by
    have := (List.getElem?_eq_some_iff.1 hu).1
    rw [hy7] at this; exact this
   have hf := flat_getN E.cells E.sz es h7 i j hj
   rw [hy] at hf
   simp only [Option.bind_some] at hf
   rw [hu, ← htk, List.getElem?_take] at hf
   split at hf
   ·simp only [World.cell?, hg]
    simpa using hf
   ·cases hf
theorem Rw.push {E : Elt α} {S : Nat → Prop} {L : Nat} {w w' : World} {v : Value} {es : List α} (h : Rw E S L w v es) (ys : List α) (hys : ys ≠ []) (hx : ∀ y ∈ ys, E.P (fun b => S b ∧ some b ≠ v.ownBlock) w y) {g cap n : Nat} (hSg : S g) (hn : n = es.length + ys.length)
  (hown : w'.ownsRow L E.T E.sz (.slice (some ⟨g, 0, none⟩) n cap) n (es.flatMap E.cells ++ ys.flatMap E.cells)) (hgrow : w.grownBy w' v.ownBlock) (hat : v.ownBlock = some g ∨ g = w.heap.size) :
  Rw E S L w' (.slice (some ⟨g, 0, none⟩) n cap) (es ++ ys) := by
 subst hn
 refine ⟨?_, ?_, fun y hy => ?_, fun e => absurd (List.append_eq_nil_iff.1 e).2 hys⟩
 ·rw [List.flatMap_append, lnA]; exact hown
 ·intro g' e
  have e' : g = g' := Option.some.inj e
  rw [← e']; exact hSg
 ·have hp : E.P (fun b => S b ∧ some b ≠ v.ownBlock) w y := by
   rcases List.mem_append.1 hy with hy | hy
   ·exact h.2.2.1 y hy
   ·exact hx y hy
  refine E.mono ?_ ?_ (E.strong hp)
  ·intro b hb
   refine ⟨hb.1.1, ?_⟩
   intro e
   have e' : b = g := Option.some.inj e
   rcases hat with hat | hat
   ·exact hb.1.2 (by rw [hat, e'])
   ·have := hb.2; omega
  ·intro b o u hb hu
   rw [World.cell?_of_block (a := ⟨b, o, none⟩) (hgrow.block b (cell_lt hu) hb.1.2)]; exact hu
theorem Rw.alloc {E : Elt α} {S : Nat → Prop} {L : Nat} {w : World} {v : Value} {es : List α} (h : Rw E S L w v es) (o : Obj) : Rw E S L (w.alloc o) v es :=
 h.to fun _ _ _ hk => (Below.heap_alloc _ _ _ (heap_lt hk)).trans hk
theorem row_app {E : Elt α} {S : Nat → Prop} {L : Nat} {W w6 w7 : World} {v : Value} {es : List α} {news : List Value} {g cap b f n xr H : Nat} {cs : Array Value} {T' : TypeId} {u : Value} {tmp : Obj}
  (R : Rw E S L W v es) (O : w6.ownsRow L E.T E.sz (.slice (some ⟨g, 0, none⟩) n cap) n (es.flatMap E.cells ++ news)) (G : (W.alloc tmp).grownBy w6 v.ownBlock) (A : v.ownBlock = some g ∨ g = H) (hH : (W.alloc tmp).heap.size = H)
  (hlg : g < w6.heap.size) (B : W.heap[b]? = some (.cells cs T')) (hb : some b ≠ v.ownBlock) (hxr : v.ownBlock = none ∨ v.ownBlock = some xr) (hSH : S H)
  (hS : w6.setCell ⟨b, f, none⟩ u = w7) :
  w7.heap[b]? = some (.cells (cs.setIfInBounds f u) T') ∧ Kq2 b xr W w7 ∧ (S g ∧ g < w7.heap.size) ∧
  (∀ ys : List α, ys ≠ [] → ys.flatMap E.cells = news → n = es.length + ys.length → (∀ y ∈ ys, E.P (fun k => S k ∧ some k ≠ v.ownBlock) W y) → ¬ S b → Rw E S L w7 (.slice (some ⟨g, 0, none⟩) n cap) (es ++ ys)) := by
 have hSg : S g := by
  rcases A with A | A
  ·exact R.2.1 g A
  ·rw [A]; exact hSH
 have e1 : ∀ k ob, W.heap[k]? = some ob → some k ≠ v.ownBlock → w6.heap[k]? = some ob := fun k ob hk hr => by
  have hl := heap_lt hk
  rw [G.block k (by rw [World.size_alloc]; omega) hr, Below.heap_alloc _ _ _ hl]; exact hk
 have e6 := e1 b _ B hb
 obtain ⟨b7, z7, o7, k7, x7⟩ := set_box hS e6
 refine ⟨b7, ?_, ⟨hSg, by omega⟩, ?_⟩
 ·have hs := G.size
  rw [World.size_alloc] at hs
  subst hS
  refine ⟨G.os, G.tape, G.output, by omega, fun k hk h1 h2 => ?_⟩
  have hr : some k ≠ v.ownBlock := by
   rcases hxr with h | h
   ·rw [h]; simp
   ·rw [h]; intro e; exact h2 (Option.some.inj e)
  rw [o7 k h1, G.block k (by rw [World.size_alloc]; omega) hr, Below.heap_alloc _ _ _ hk]
 ·intro ys hys hf hn' hP hSb
  subst hf
  subst hH
  have hR := (R.alloc tmp).push ys hys (fun y hy => E.moved (hP y hy) (fun _ _ _ hk => (Below.heap_alloc _ _ _ (heap_lt hk)).trans hk)) (w' := w6) hSg hn' O G A
  exact hR.to fun k ob hk ho => by
   rw [o7 k (by intro e; subst e; exact hSb hk)]; exact ho
theorem info93 : (Tryz.prog.info? 93).map (fun i => (i.zero, i.size, i.bytes)) = some (some (.agg #[.int .i64 0, .int .i64 0, .bool false, .string ⟨#[]⟩, .slice none 0 0, .slice none 0 0, .slice none 0 0]), 7, 112) := by kernel_rfl
theorem info93' : ∃ i, Tryz.prog.info? 93 = some i ∧ i.zero = some (.agg #[.int .i64 0, .int .i64 0, .bool false, .string ⟨#[]⟩, .slice none 0 0, .slice none 0 0, .slice none 0 0]) ∧ i.size = 7 ∧ i.bytes = 112 := by
 have h := info93
 cases hi : Tryz.prog.info? 93 with
 | none => rw [hi] at h; cases h
 | some i => rw [hi] at h; simp at h; exact ⟨i, rfl, h.1, h.2.1, h.2.2⟩
theorem info127 : (Tryz.prog.info? 127).map (fun i => (i.zero, i.size, i.bytes)) = some (some (.agg #[.bool false, .slice none 0 0, .int .i64 0, .int .i64 0, .bool false, .string ⟨#[]⟩, .slice none 0 0, .slice none 0 0, .slice none 0 0]), 9, 144) := by kernel_rfl
theorem info127' : ∃ i, Tryz.prog.info? 127 = some i ∧ i.zero = some (.agg #[.bool false, .slice none 0 0, .int .i64 0, .int .i64 0, .bool false, .string ⟨#[]⟩, .slice none 0 0, .slice none 0 0, .slice none 0 0]) ∧ i.size = 9 ∧ i.bytes = 144 := by
 have h := info127
 cases hi : Tryz.prog.info? 127 with
 | none => rw [hi] at h; cases h
 | some i => rw [hi] at h; simp at h; exact ⟨i, rfl, h.1, h.2.1, h.2.2⟩
def StPost (br : Nat) (s : ByteArray) (c : Int) (m : Nat) (w : World) (e : Ending) (w' : World) : Prop :=
 ∃ (k a : Int) (later : Bool) (nm : ByteArray) (xa : Option Addr) (xl xc : Nat) (sa : Option Addr) (sl sc : Nat) (aa : Option Addr) (al ac : Nat), e = .returned (.agg #[.int .i64 k, .int .i64 a, .bool later, .string nm, .slice xa xl xc, .slice sa sl sc, .slice aa al ac]) ∧ Kq br w w' ∧
  ∃ (c' : Int) (m' : Nat), Sx br s w' c' m' ∧ Adv c m c' m' ∧
   (c' = 0 → ∃ t, PS (fun b => w.heap.size ≤ b) w' [.int .i64 k, .int .i64 a, .bool later, .string nm, .slice xa xl xc, .slice sa sl sc, .slice aa al ac] t ∧ t.length + 2 ≤ 64 * (m - m'))
def CStmt (M : Nat) : Prop := ∀ (br : Nat) (s : ByteArray) (c : Int) (m : Nat) (w : World), Sx br s w c m → meas c m ≤ M → Calls Tryz.prog 57 #[.pointer (some ⟨br, 0, none⟩)] w (StPost br s c m w)
def CCases (M : Nat) : Prop := ∀ (br : Nat) (s : ByteArray) (c : Int) (m : Nat) (w : World) (k a : Int), Sx br s w c m → meas c m ≤ M →
 Calls Tryz.prog 76 #[.pointer (some ⟨br, 0, none⟩), .agg #[.int .i64 k, .int .i64 a, .bool false, .string ⟨#[]⟩, .slice none 0 0, .slice none 0 0, .slice none 0 0]] w (StPost br s c m w)
theorem st_close {br : Nat} {s : ByteArray} {c : Int} {m : Nat} {w w2 : World} {k a : Int} {later : Bool} {nm : ByteArray} {xa : Option Addr} {xl xc : Nat} {sa : Option Addr} {sl sc : Nat} {aa : Option Addr} {al ac : Nat} {c' : Int} {m' r : Nat} (hbr : br < w.heap.size) (K : Kq br w w2) (X : Sx br s w2 c' m') (A : Adv c m c' m') (hr : w.heap.size ≤ r)
  (hP : c' = 0 → ∃ t, PS (fun b => w.heap.size ≤ b ∧ b ≠ r) w2 [.int .i64 k, .int .i64 a, .bool later, .string nm, .slice xa xl xc, .slice sa sl sc, .slice aa al ac] t ∧ t.length + 2 ≤ 64 * (m - m')) :
  StPost br s c m w (.returned (.agg #[.int .i64 k, .int .i64 a, .bool later, .string nm, .slice xa xl xc, .slice sa sl sc, .slice aa al ac])) (set7 w2 r (.int .i64 k) (.int .i64 a) (.bool later) (.string nm) (.slice xa xl xc) (.slice sa sl sc) (.slice aa al ac)) := by
 refine ⟨k, a, later, nm, xa, xl, xc, sa, sl, sc, aa, al, ac, rfl, K.set7 hr _ _ _ _ _ _ _, c', m', X.to (heap_set7 (by omega) _ _ _ _ _ _ _), A, fun hc => ?_⟩
 obtain ⟨t, hp, hl⟩ := hP hc
 refine ⟨t, hp.mono (fun b hb => hb.1) ?_, hl⟩
 intro b o u hb hu
 rw [World.cell?_of_block (a := ⟨b, o, none⟩) (set7_ne hb.2 _ _ _ _ _ _ _)]; exact hu
theorem pe_born {C : Prop} {lo : Nat} {w' : World} {k : Int} {cs : List Value} {F : List UInt8 → Prop} (h : C → ∃ t, PE (fun b => lo ≤ b) w' k cs t ∧ F t) : C → ∃ t, PE (fun b => lo ≤ b ∧ b < w'.heap.size) w' k cs t ∧ F t := fun hc => by
 obtain ⟨t, h1, h2⟩ := h hc; exact ⟨t, h1.strong, h2⟩
theorem pe_to {C : Prop} {S : Nat → Prop} {w w' : World} {k : Int} {cs : List Value} {F : List UInt8 → Prop} (h : C → ∃ t, PE S w k cs t ∧ F t) (hb : ∀ k o, S k → w.heap[k]? = some o → w'.heap[k]? = some o) : C → ∃ t, PE S w' k cs t ∧ F t := fun hc => by
 obtain ⟨t, h1, h2⟩ := h hc; exact ⟨t, elE.moved (x := (k, cs, t)) h1 hb, h2⟩
theorem ps_born {C : Prop} {lo : Nat} {w' : World} {cs : List Value} {F : List UInt8 → Prop} (h : C → ∃ t, PS (fun b => lo ≤ b) w' cs t ∧ F t) : C → ∃ t, PS (fun b => lo ≤ b ∧ b < w'.heap.size) w' cs t ∧ F t := fun hc => by
 obtain ⟨t, h1, h2⟩ := h hc; exact ⟨t, h1.strong, h2⟩
theorem ps_to {C : Prop} {S : Nat → Prop} {w w' : World} {cs : List Value} {F : List UInt8 → Prop} (h : C → ∃ t, PS S w cs t ∧ F t) (hb : ∀ k o, S k → w.heap[k]? = some o → w'.heap[k]? = some o) : C → ∃ t, PS S w' cs t ∧ F t := fun hc => by
 obtain ⟨t, h1, h2⟩ := h hc; exact ⟨t, elS.moved (x := (cs, t)) h1 hb, h2⟩
theorem rw_to {C : Prop} {α : Type} {E : Elt α} {S : Nat → Prop} {L : Nat} {w w' : World} {v : Value} {F : List α → Prop} (h : C → ∃ es, Rw E S L w v es ∧ F es) (hb : ∀ k o, S k → w.heap[k]? = some o → w'.heap[k]? = some o) : C → ∃ es, Rw E S L w' v es ∧ F es := fun hc => by
 obtain ⟨t, h1, h2⟩ := h hc; exact ⟨t, h1.to hb, h2⟩
theorem seven_oneS {k a : Int} {later : Bool} {nm : ByteArray} {xa : Option Addr} {xl xc : Nat} {sa : Option Addr} {sl sc : Nat} {aa : Option Addr} {al ac : Nat} : ∀ u ∈ [Value.int .i64 k, .int .i64 a, .bool later, .string nm, .slice xa xl xc, .slice sa sl sc, .slice aa al ac], u.oneCell' = true := by
 intro u hu
 simp at hu
 rcases hu with rfl | rfl | rfl | rfl | rfl | rfl | rfl <;> rfl
theorem new_cells (w : World) (T : TypeId) (cs : List Value) : ∀ j u, cs[j]? = some u → (w.alloc (.cells cs.toArray T)).cell? ((⟨w.heap.size, 0, none⟩ : Addr).add j) = some u := by
 intro j u hu
 have e : (⟨w.heap.size, 0, none⟩ : Addr).add j = ⟨w.heap.size, j, none⟩ := by
  simp [Addr.add]; intro h; exact h.symm
 rw [e, World.cell?_alloc_new, ← hu]
 rw [List.getElem?_toArray]
theorem accept_alt {br : Nat} {s : ByteArray} {w : World} {c : Int} {m : Nat} {Q : Ending → World → Prop} (h : Sx br s w c m) (t : ByteArray)
  (ht : c = 0 → ∀ m' w', m' < m → Kq br w w' → Sx br s w' 0 m' → Q (.returned (.bool true)) w') (hf : Q (.returned (.bool false)) w) :
  Calls Tryz.prog 18 #[.pointer (some ⟨br, 0, none⟩), .string t] w Q := by
 refine (accept_any h t).mono ?_
 rintro e w' ⟨bo, rfl, hk, hh⟩
 rcases hh with ⟨rfl, hc, m', hm, hx⟩ | ⟨rfl, rfl⟩
 ·exact ht hc m' w' hm hk hx
 ·exact hf
theorem is_alt {br : Nat} {s : ByteArray} {w : World} {c : Int} {m : Nat} {Q : Ending → World → Prop} (h : Sx br s w c m) (t : ByteArray)
  (ht : c = 0 → ∀ (wd n : Int) (T : ByteArray), St br s w 0 m 3 wd n T → Q (.returned (.bool true)) w) (hf : Q (.returned (.bool false)) w) :
  Calls Tryz.prog 20 #[.pointer (some ⟨br, 0, none⟩), .string t] w Q := by
 obtain ⟨k, wd, n, T, hst⟩ := h
 refine (is_st hst t).mono ?_
 rintro e w' ⟨bo, rfl, rfl, hb⟩
 cases bo with
 | false => exact hf
 | true =>
  obtain ⟨rfl, rfl⟩ := hb rfl
  exact ht rfl wd n T hst
theorem Rw.sub {α : Type} {E : Elt α} {S S' : Nat → Prop} {L : Nat} {w : World} {v : Value} {es : List α} (h : Rw E S L w v es) (hs : ∀ b, S b → S' b) : Rw E S' L w v es :=
 ⟨h.1, fun g hg => hs g (h.2.1 g hg), fun x hx => E.mono (fun b hb => ⟨hs b hb.1, hb.2⟩) (fun _ _ _ _ hu => hu) (h.2.2.1 x hx), h.2.2.2⟩
theorem Rw.strong {α : Type} {E : Elt α} {S : Nat → Prop} {L : Nat} {w : World} {v : Value} {es : List α} (h : Rw E S L w v es) : Rw E (fun b => S b ∧ b < w.heap.size) L w v es :=
 ⟨h.1, fun g hg => ⟨h.2.1 g hg, (h.1.lt g hg).2⟩, fun x hx => E.mono (fun _ hb => ⟨⟨hb.1.1, hb.2⟩, hb.1.2⟩) (fun _ _ _ _ hu => hu) (E.strong (h.2.2.1 x hx)), h.2.2.2⟩
theorem Els.rw {L : Nat} {w : World} {v : Value} {es : List Ele} (h : Els L w v es) (hn : es ≠ []) : Rw elE (fun b => L ≤ b ∧ b < w.heap.size) L w v es := by
 have h1 : Rw elE (fun b => L ≤ b) L w v es := ⟨h.1, fun g hg => (h.1.lt g hg).1, fun x hx => h.2 x hx, fun e => absurd e hn⟩
 exact h1.strong
theorem lp_born {C : Prop} {L : Nat} {w : World} {v : Value} {F : List Ele → Prop} (h : C → ∃ es : List Ele, Els L w v es ∧ es.length = 3 ∧ F es) :
  C → ∃ es : List Ele, Rw elE (fun b => L ≤ b ∧ b < w.heap.size) L w v es ∧ es.length = 3 ∧ F es := fun hc => by
 obtain ⟨es, h1, h2, h3⟩ := h hc
 exact ⟨es, h1.rw (by intro e; subst e; simp at h2), h2, h3⟩
theorem lp_to {C : Prop} {S : Nat → Prop} {L : Nat} {w w' : World} {v : Value} {F : List Ele → Prop} (h : C → ∃ es : List Ele, Rw elE S L w v es ∧ F es) (hb : ∀ k o, S k → w.heap[k]? = some o → w'.heap[k]? = some o) : C → ∃ es : List Ele, Rw elE S L w' v es ∧ F es := rw_to h hb
theorem bx9 {W : World} {b : Nat} {T : TypeId} {v0 v1 v2 v3 v4 v5 v6 v7 v8 : Value} (h : W.heap[b]? = some (.cells #[v0, v1, v2, v3, v4, v5, v6, v7, v8] T)) :
  W.cell? ⟨b, 0, none⟩ = some v0 ∧ W.cell? ⟨b, 1, none⟩ = some v1 ∧ W.cell? ⟨b, 2, none⟩ = some v2 ∧ W.cell? ⟨b, 3, none⟩ = some v3 ∧ W.cell? ⟨b, 4, none⟩ = some v4 ∧ W.cell? ⟨b, 5, none⟩ = some v5 ∧ W.cell? ⟨b, 6, none⟩ = some v6 ∧ W.cell? ⟨b, 7, none⟩ = some v7 ∧ W.cell? ⟨b, 8, none⟩ = some v8 ∧ (∀ o, W.frozen? ⟨b, o, none⟩ = false) ∧ b < W.heap.size := by
 refine ⟨?_, ?_, ?_, ?_, ?_, ?_, ?_, ?_, ?_, ?_, heap_lt h⟩ <;> simp [World.cell?, World.frozen?, h]
theorem row_nil {S : Nat → Prop} {w : World} {sz : Nat} : RowOf S w sz (.slice none 0 0) [] := .inl ⟨rfl, rfl⟩
theorem ps_none {S : Nat → Prop} {w : World} (a : Int) : PS S w [.int .i64 1, .int .i64 a, .bool false, .string ⟨#[]⟩, .slice none 0 0, .slice none 0 0, .slice none 0 0] [59] :=
 PS.node 1 a false [] [] _ [] _ [] _ (Or.inl ⟨rfl, rfl, rfl, rfl⟩) row_nil (fun x h => by cases h) row_nil (fun i x h => by simp at h) row_nil (fun d h => by cases h) (fun i d h => by simp at h)
theorem ps_block {S : Nat → Prop} {w : World} {L : Nat} (a : Int) {v : Value} {ss : List (List Value × List UInt8)} (h : Rw elS S L w v ss) :
  PS S w [.int .i64 2, .int .i64 a, .bool false, .string ⟨#[]⟩, .slice none 0 0, v, .slice none 0 0] ([98, 101, 103, 105, 110, 32] ++ spaced (ss.map (fun x : List Value × List UInt8 => x.2)) ++ [101, 110, 100]) :=
 PS.node 2 a false [] [] _ ss v [] _ (Or.inr (Or.inl ⟨rfl, rfl, rfl⟩)) row_nil (fun x h => by cases h) h.row.1 (fun i x hx => h.row.2 x (List.mem_of_getElem? hx)) row_nil (fun d h => by cases h) (fun i d h => by simp at h)
theorem ps_if {S : Nat → Prop} {w : World} {L L' : Nat} (a : Int) {v v' : Value} {x : Ele} {ss : List (List Value × List UInt8)} (hx : Rw elE S L w v [x]) (h : Rw elS S L' w v' ss) (hn : ss.length = 1 ∨ ss.length = 2) :
  PS S w [.int .i64 3, .int .i64 a, .bool false, .string ⟨#[]⟩, v, v', .slice none 0 0] (stTxt 3 false [] [x.2.2] (ss.map (fun x : List Value × List UInt8 => x.2)) []) :=
 PS.node 3 a false [] [x] v ss v' [] _ (Or.inr (Or.inr (Or.inl ⟨rfl, rfl, hn, rfl⟩))) hx.row.1 hx.row.2 h.row.1 (fun i x hx => h.row.2 x (List.mem_of_getElem? hx)) row_nil (fun d h => by cases h) (fun i d h => by simp at h)
theorem ps_for {S : Nat → Prop} {w : World} {L L' : Nat} (a : Int) (nm : ByteArray) {v v' : Value} {es : List Ele} {x : List Value × List UInt8} (hx : Rw elE S L w v es) (h : Rw elS S L' w v' [x]) (hn : es.length = 3) :
  PS S w [.int .i64 6, .int .i64 a, .bool false, .string nm, v, v', .slice none 0 0] (stTxt 6 false nm.data.toList (es.map (fun x : Ele => x.2.2)) [x.2] []) := by
 have := PS.node (S := S) (w := w) 6 a false nm.data.toList es v [x] v' [] (.slice none 0 0) (Or.inr (Or.inr (Or.inr (Or.inr (Or.inr ⟨rfl, hn, rfl, rfl⟩))))) hx.row.1 hx.row.2 h.row.1 (fun i x hx => h.row.2 x (List.mem_of_getElem? hx)) row_nil (fun d h => by cases h) (fun i d h => by simp at h)
 rw [bs_of] at this; exact this
theorem ps_set {S : Nat → Prop} {w : World} {L : Nat} (a : Int) (lt : Bool) {v : Value} {x y : Ele} (hx : Rw elE S L w v [x, y]) :
  PS S w [.int .i64 5, .int .i64 a, .bool lt, .string ⟨#[]⟩, v, .slice none 0 0, .slice none 0 0] (x.2.2 ++ (if lt then [32, 60, 61, 32] else [32, 61, 32]) ++ y.2.2 ++ [59]) :=
 PS.node 5 a lt [] [x, y] v [] _ [] _ (Or.inr (Or.inr (Or.inr (Or.inr (Or.inl ⟨rfl, rfl, rfl, rfl⟩))))) hx.row.1 hx.row.2 row_nil (fun i x h => by simp at h) row_nil (fun d h => by cases h) (fun i d h => by simp at h)
theorem ps_case {S : Nat → Prop} {w : World} {L L' : Nat} (a : Int) {v v' : Value} {x : Ele} {ar : List ArmD} (hx : Rw elE S L w v [x]) (h : Rw elA S L' w v' ar) (hn : ∀ d ∈ ar, d.dflt = false → 1 ≤ d.labels.length) :
  PS S w [.int .i64 4, .int .i64 a, .bool false, .string ⟨#[]⟩, v, .slice none 0 0, v'] ([99, 97, 115, 101, 32, 40] ++ x.2.2 ++ [41, 32] ++ spaced (ar.map armTxt) ++ [101, 110, 100, 99, 97, 115, 101]) :=
 PS.node 4 a false [] [x] v [] _ ar v' (Or.inr (Or.inr (Or.inr (Or.inl ⟨rfl, rfl, rfl, hn⟩)))) hx.row.1 hx.row.2 row_nil (fun i x h => by simp at h) h.row.1 (fun d hd => (h.row.2 d hd).1) (fun i d hd => (h.row.2 d (List.mem_of_getElem? hd)).2)
theorem spaced_snoc (l : List (List UInt8)) (t : List UInt8) : (spaced (l ++ [t])).length = (spaced l).length + t.length + 1 := by
 simp [spaced]; omega
end Go.Proofs.YtimmmlnememjiaaGreatDoor
