import Derived.Test.YtimmmlnememjiaaGreatDoorX
import Derived.Test.YtimmmlnememjiaaGreatDoorX23
set_option maxRecDepth 100000
set_option maxHeartbeats 16000000
namespace Go.Proofs.YtimmmlnememjiaaGreatDoor
open Go.RowKit
theorem cell_alloc {w : World} {a : Addr} {v : Value} (o : Obj) (h : w.cell? a = some v) : (w.alloc o).cell? a = some v := by
 rw [World.cell?_alloc_lt _ _ _ (World.block_lt_of_cell? w _ h)]; exact h
theorem drawn_box {w W : World} {o1 : Obj} (hW : (w.alloc o1).drew = W) :
  W.heap.size = w.heap.size + 1 ∧ W.heap[w.heap.size]? = some o1 ∧ (∀ k, k < w.heap.size → W.heap[k]? = w.heap[k]?) ∧ (∀ br, Hid (Kq br w W)) := by
 obtain ⟨h1, h2, h3, h4⟩ := one_box (w := w) (o1 := o1) rfl
 subst hW
 exact ⟨h1, h2, h3, fun br => (h4 br).out.drew⟩
theorem info95s : (Tryz.prog.info? 95).map (·.size) = some 65 := info95
theorem Rw.own2 {α : Type} {E : Elt α} {S : Nat → Prop} {L : Nat} {w : World} {v : Value} {es : List α} (h : Rw E S L w v es) {x0 : Nat} (h0 : S x0) (h1 : L ≤ x0) : ∃ xr, (v.ownBlock = none ∨ v.ownBlock = some xr) ∧ S xr ∧ L ≤ xr ∧ (v.ownBlock = none → xr = x0) := by
 cases e : v.ownBlock with
 | none => exact ⟨x0, .inl rfl, h0, h1, fun _ => rfl⟩
 | some g => exact ⟨g, .inr rfl, h.2.1 g e, (h.1.lt g e).1, fun h => by cases h⟩
def x95 (Z : Array Value) (a : Int) (vs : List Value) : Array Value := arrFrom (z95 Z 1 a) 4 vs
theorem x95_size (a : Int) (vs : List Value) : (x95 Tryz.zeroCells95 a vs).size = 65 := (arrFrom_size _ _ _).trans (z95_size 1 a)
theorem x95_one (a : Int) {vs : List Value} (h : ∀ v ∈ vs, v.oneCell' = true) : ∀ v ∈ (x95 Tryz.zeroCells95 a vs).toList, v.oneCell' = true := arrFrom_one (z95_one 1 a) 4 h
theorem x95_of (a : Int) {vs us : List Value} {o : Nat} (h : Has (z95 Tryz.zeroCells95 1 a) o us) (hd : o + us.length ≤ 4 ∨ 4 + vs.length ≤ o) : Has (x95 Tryz.zeroCells95 a vs) o us := fun j v hv => by
 have hj := (List.getElem?_eq_some_iff.1 hv).1
 unfold x95
 rw [arrFrom_out _ _ _ _ (by omega)]; exact h j v hv
theorem x95_4 (a : Int) {vs : List Value} (h : vs.length = 15) : Has (x95 Tryz.zeroCells95 a vs) 4 vs := arrFrom_in _ _ _ (by rw [z95_size, h]; decide)
theorem store_drawn (w : World) (cs : Array Value) (h : cs.size = 65) (h1 : ∀ v ∈ cs.toList, v.oneCell' = true) :
  (storeCells ⟨w.heap.size, 0, none⟩ cs.toList 0).run Tryz.prog ((w.alloc (.cells Tryz.zeroCells95 95)).drew) = .ok () (((w.alloc (.cells Tryz.zeroCells95 95)).drew).setCells w.heap.size 0 cs.toList) := by
 have ht := there_new1 w Tryz.zeroCells95 95 65 zero95_size
 refine run_storeCells_cells (P := Tryz.prog) w.heap.size 0 cs.toList 0 _ (fun j hj => ?_) (fun j hj => ?_) h1
 ·have := (ht j (by simpa [h] using hj)).1
  simpa using this
 ·simp
def elR : Elt (List Value) where
 T := 95
 sz := 65
 cells x := x
 P _ _ x := x.length = 65
 pos := by decide
 mono _ _ h := h
 strong h := h
 len h := h
theorem flat_id (es : List ItemD) : (es.map (fun x : ItemD => x.1)).flatMap elR.cells = es.flatMap elI.cells := by
 induction es with
 | nil => rfl
 | cons x r ih => rw [List.map_cons, List.flatMap_cons, List.flatMap_cons, ih]; rfl
theorem Rw.raw {S : Nat → Prop} {L : Nat} {w : World} {v : Value} {es : List ItemD} (h : Rw elI S L w v es) : Rw elR S L w v (es.map (fun x : ItemD => x.1)) := by
 refine ⟨?_, h.2.1, fun x hx => ?_, fun e => h.2.2.2 (List.map_eq_nil_iff.1 e)⟩
 ·rw [flat_id, List.length_map]; exact h.1
 ·obtain ⟨y, hy, rfl⟩ := List.mem_map.1 hx
  exact elI.len (h.2.2.1 y hy)
theorem Rw.join {S : Nat → Prop} {L : Nat} {w : World} {v : Value} {es : List ItemD} {rs : List (List Value)} (h : Rw elR S L w v rs) (e : rs = es.map (fun x : ItemD => x.1)) (hp : ∀ x ∈ es, PI (fun b => S b ∧ some b ≠ v.ownBlock) w x.1 x.2) : Rw elI S L w v es := by
 subst e
 refine ⟨?_, h.2.1, hp, fun e => h.2.2.2 (by rw [e]; rfl)⟩
 have h1 := h.1
 rw [flat_id, List.length_map] at h1; exact h1
theorem Rw.low {α : Type} {E : Elt α} {S : Nat → Prop} {L : Nat} {w : World} {v : Value} {es : List α} (h : Rw E S L w v es) {b : Nat} (hb : b < L) : some b ≠ v.ownBlock := by
 rcases h.1.2 with ⟨h0, _⟩ | ⟨g, cap, cur, hv, hL, _⟩
 ·rw [h0]; simp [Value.ownBlock]
 ·rw [hv]; intro e
  have : b = g := Option.some.inj e
  omega
theorem own_apart {v : Value} {b xr x0 : Nat} (hxo : v.ownBlock = none ∨ v.ownBlock = some xr) (hb : some b ≠ v.ownBlock) (h0 : v.ownBlock = none → xr = x0) (hx : b ≠ x0) : b ≠ xr := by
 rcases hxo with h | h
 ·rw [h0 h]; exact hx
 ·intro e; exact hb (by rw [h, e])
theorem own_g {v : Value} {g xr H : Nat} (A : v.ownBlock = some g ∨ g = H) (hxo : v.ownBlock = none ∨ v.ownBlock = some xr) : g = xr ∨ g = H := by
 rcases A with A | A
 ·rcases hxo with h | h
  ·rw [h] at A; cases A
  ·rw [h] at A; exact .inl (Option.some.inj A).symm
 ·exact .inr A
theorem els_to {α : Type} {E : Elt α} {S : Nat → Prop} {w w' : World} {es : List α} (h : ∀ x ∈ es, E.P S w x) (hb : ∀ k o, S k → w.heap[k]? = some o → w'.heap[k]? = some o) : ∀ x ∈ es, E.P S w' x := fun x hx => E.moved (h x hx) hb
theorem ry_born {C : Prop} {lo K : Nat} {w : World} {cs : List Value} (h : C → ∃ (k1 k2 : Int) (c1 c2 : List Value) (t1 t2 : List UInt8), cs = .bool true :: (c1 ++ c2) ∧ PE (fun b => lo ≤ b) w k1 c1 t1 ∧ PE (fun b => lo ≤ b) w k2 c2 t2 ∧ t1.length + t2.length + 4 ≤ K) :
  C → ∃ (k1 k2 : Int) (c1 c2 : List Value) (t1 t2 : List UInt8), cs = .bool true :: (c1 ++ c2) ∧ PE (fun b => lo ≤ b ∧ b < w.heap.size) w k1 c1 t1 ∧ PE (fun b => lo ≤ b ∧ b < w.heap.size) w k2 c2 t2 ∧ t1.length + t2.length + 4 ≤ K := fun hc => by
 obtain ⟨k1, k2, c1, c2, t1, t2, e, p1, p2, hl⟩ := h hc
 exact ⟨k1, k2, c1, c2, t1, t2, e, p1.strong, p2.strong, hl⟩
theorem ry_to {C : Prop} {S : Nat → Prop} {K : Nat} {w w' : World} {cs : List Value} (h : C → ∃ (k1 k2 : Int) (c1 c2 : List Value) (t1 t2 : List UInt8), cs = .bool true :: (c1 ++ c2) ∧ PE S w k1 c1 t1 ∧ PE S w k2 c2 t2 ∧ t1.length + t2.length + 4 ≤ K)
  (hb : ∀ k o, S k → w.heap[k]? = some o → w'.heap[k]? = some o) : C → ∃ (k1 k2 : Int) (c1 c2 : List Value) (t1 t2 : List UInt8), cs = .bool true :: (c1 ++ c2) ∧ PE S w' k1 c1 t1 ∧ PE S w' k2 c2 t2 ∧ t1.length + t2.length + 4 ≤ K := fun hc => by
 obtain ⟨k1, k2, c1, c2, t1, t2, e, p1, p2, hl⟩ := h hc
 exact ⟨k1, k2, c1, c2, t1, t2, e, elE.moved (x := (k1, c1, t1)) p1 hb, elE.moved (x := (k2, c2, t2)) p2 hb, hl⟩
def u95 (Z : Array Value) (a : Int) (tg vl : List Value) : Array Value := arrFrom (arrFrom (z95 Z 5 a) 42 tg) 35 vl
theorem u95_size (a : Int) (tg vl : List Value) : (u95 Tryz.zeroCells95 a tg vl).size = 65 := (arrFrom_size _ _ _).trans ((arrFrom_size _ _ _).trans (z95_size 5 a))
theorem u95_one (a : Int) {tg vl : List Value} (h : ∀ v ∈ tg, v.oneCell' = true) (h' : ∀ v ∈ vl, v.oneCell' = true) : ∀ v ∈ (u95 Tryz.zeroCells95 a tg vl).toList, v.oneCell' = true := arrFrom_one (arrFrom_one (z95_one 5 a) 42 h) 35 h'
theorem u95_big (a : Int) {tg vl : List Value} (h : ∀ v ∈ tg, v.oneCell' = true) (h' : ∀ v ∈ vl, v.oneCell' = true) : Big (u95 Tryz.zeroCells95 a tg vl).toList := ⟨by rw [Array.length_toList, u95_size], u95_one a h h'⟩
theorem u95_0 (a : Int) {tg vl : List Value} : Has (u95 Tryz.zeroCells95 a tg vl) 0 [.int .i64 5] := fun j v hv => by
 have hj := (List.getElem?_eq_some_iff.1 hv).1
 simp only [lnC, lnN] at hj
 unfold u95
 rw [arrFrom_out _ _ _ _ (by omega), arrFrom_out _ _ _ _ (by omega)]; exact z95_0 5 a j v hv
theorem u95_35 (a : Int) {tg vl : List Value} (h : vl.length = 7) : Has (u95 Tryz.zeroCells95 a tg vl) 35 vl := arrFrom_in _ _ _ (by rw [arrFrom_size, z95_size, h]; decide)
theorem u95_42 (a : Int) {tg vl : List Value} (h : vl.length = 7) (h' : tg.length = 7) : Has (u95 Tryz.zeroCells95 a tg vl) 42 tg := fun j v hv => by
 unfold u95
 rw [arrFrom_out _ _ _ _ (by omega)]
 exact arrFrom_in _ _ _ (by rw [z95_size, h']; decide) j v hv
def Its (C : Prop) (S : Nat → Prop) (L : Nat) (w : World) (v : Value) (K : Nat) (F : List ItemD → Prop) : Prop :=
 ∃ rs : List (List Value), Rw elR S L w v rs ∧ (∀ x ∈ rs, ∀ u ∈ x, u.oneCell' = true) ∧ rs.length ≤ K ∧ (C → ∃ es : List ItemD, Rw elI S L w v es ∧ rs = es.map (fun x : ItemD => x.1) ∧ F es)
theorem its_to {C : Prop} {S : Nat → Prop} {L : Nat} {w w' : World} {v : Value} {K : Nat} {F : List ItemD → Prop} (h : Its C S L w v K F) (hb : ∀ k o, S k → w.heap[k]? = some o → w'.heap[k]? = some o) : Its C S L w' v K F := by
 obtain ⟨rs, h1, h2, h3, h4⟩ := h
 refine ⟨rs, h1.to hb, h2, h3, fun hc => ?_⟩
 obtain ⟨es, h5, h6⟩ := h4 hc
 exact ⟨es, h5.to hb, h6⟩
theorem Its.mono {C C' : Prop} {S S' : Nat → Prop} {L L' : Nat} {w : World} {v : Value} {K K' : Nat} {F F' : List ItemD → Prop} (h : Its C S L w v K F) (hC : C' → C) (hS : ∀ b, S b → S' b) (hL : L' ≤ L) (hK : K ≤ K') (hF : ∀ es, C' → F es → F' es) : Its C' S' L' w v K' F' := by
 obtain ⟨rs, h1, h2, h3, h4⟩ := h
 refine ⟨rs, h1.sub2 hL hS, h2, Nat.le_trans h3 hK, fun hc => ?_⟩
 obtain ⟨es, h5, h6, h7⟩ := h4 (hC hc)
 exact ⟨es, h5.sub2 hL hS, h6, hF es hc h7⟩
theorem Its.nil {C : Prop} {S : Nat → Prop} {L : Nat} {w : World} {K : Nat} {F : List ItemD → Prop} (h : F []) : Its C S L w (.slice none 0 0) K F :=
 ⟨[], Rw.nil _ _ _ _, fun x h => by (cases h), Nat.zero_le _, fun _ => ⟨[], Rw.nil _ _ _ _, rfl, h⟩⟩
theorem ones_snoc {es : List ItemD} {S : Nat → Prop} {L : Nat} {w : World} {v : Value} (h : Rw elI S L w v es) {cs : List Value} (hc : ∀ u ∈ cs, u.oneCell' = true) : ∀ x ∈ es.map (fun x : ItemD => x.1) ++ [cs], ∀ u ∈ x, u.oneCell' = true := by
 intro x hx
 rcases List.mem_append.1 hx with hx | hx
 ·obtain ⟨y, hy, rfl⟩ := List.mem_map.1 hx
  exact (PI.big (h.2.2.1 y hy)).2
 ·rw [List.mem_singleton] at hx; subst hx; exact hc
def ItPost (br : Nat) (s : ByteArray) (c : Int) (m : Nat) (w : World) (e : Ending) (w' : World) : Prop :=
 ∃ (sa : Option Addr) (sl sc : Nat), e = .returned (.slice sa sl sc) ∧ Kq br w w' ∧ ∃ (c' : Int) (m' : Nat), Sx br s w' c' m' ∧ Adv c m c' m' ∧
  Its (c' = 0) (fun b => w.heap.size ≤ b) w.heap.size w' (.slice sa sl sc) (2 * (m - m') + 2) (fun es => es.length ≤ 2 * (m - m') ∧ (es.map (fun x : ItemD => x.2)).flatten.length ≤ 4000000 * (m - m'))
def IsPo (br : Nat) (s : ByteArray) (c : Int) (m : Nat) (w : World) (e : Ending) (w' : World) : Prop :=
 ∃ (sa : Option Addr) (sl sc : Nat), e = .returned (.slice sa sl sc) ∧ Kq br w w' ∧ ∃ (c' : Int) (m' : Nat), Sx br s w' c' m' ∧ m' ≤ m ∧ (c' = 0 → c = 0) ∧
  (c' = 0 → ∃ es : List ItemD, Rw elI (fun b => w.heap.size ≤ b) w.heap.size w' (.slice sa sl sc) es ∧ (es.map (fun x : ItemD => x.2)).flatten.length ≤ 4000000 * (m - m'))
def PaPost (br : Nat) (s : ByteArray) (c : Int) (m : Nat) (w : World) (e : Ending) (w' : World) : Prop :=
 ∃ (nm : ByteArray) (sa : Option Addr) (sl sc : Nat), e = .returned (.tuple #[.string nm, .slice sa sl sc]) ∧ Kq br w w' ∧ ∃ (c' : Int) (m' : Nat), Sx br s w' c' m' ∧ Adv c m c' m' ∧
  (c' = 0 → ∃ es : List ItemD, Rw elI (fun b => w.heap.size ≤ b) w.heap.size w' (.slice sa sl sc) es ∧ (partTxt nm.data.toList (es.map (fun x : ItemD => x.2)).flatten).length + 100 ≤ 4000000 * (m - m'))
def CItems (M : Nat) : Prop := ∀ (t : ByteArray) (br : Nat) (s : ByteArray) (c : Int) (m : Nat) (w : World), Sx br s w c m → meas c m ≤ M → Calls Tryz.prog 22 #[.pointer (some ⟨br, 0, none⟩), .string t] w (IsPo br s c m w)
def CItem (M : Nat) : Prop := ∀ (br : Nat) (s : ByteArray) (m : Nat) (w : World), Sx br s w 0 m → m + 1 ≤ M → Calls Tryz.prog 41 #[.pointer (some ⟨br, 0, none⟩)] w (ItPost br s 0 m w)
def CPart (M : Nat) : Prop := ∀ (br : Nat) (s : ByteArray) (c : Int) (m : Nat) (w : World), Sx br s w c m → meas c m ≤ M → 1 ≤ M → Calls Tryz.prog 59 #[.pointer (some ⟨br, 0, none⟩)] w (PaPost br s c m w)
theorem meas_adv {c c' : Int} {m m' M : Nat} (A : Adv c m c' m') (hM : meas c m ≤ M) (h1 : 1 ≤ M) : meas c' m' < M := by
 unfold meas at hM ⊢
 split
 ·rename_i h
  obtain ⟨h2, h3⟩ := A.2 h
  rw [if_pos h2] at hM; omega
 ·omega
theorem partTxt_len (lb its : List UInt8) : (partTxt lb its).length = lb.length + its.length + 12 := by
 unfold partTxt; simp only [lnA, lnC, lnN]; omega
theorem its_born {C : Prop} {lo : Nat} {w : World} {v : Value} {K : Nat} {F : List ItemD → Prop} (h : Its C (fun b => lo ≤ b) lo w v K F) : Its C (fun b => lo ≤ b ∧ b < w.heap.size) lo w v K F := by
 obtain ⟨rs, h1, h2, h3, h4⟩ := h
 refine ⟨rs, h1.strong, h2, h3, fun hc => ?_⟩
 obtain ⟨es, h5, h6⟩ := h4 hc
 exact ⟨es, h5.strong, h6⟩
variable {α : Type}
theorem Rw.cap {E : Elt α} {S : Nat → Prop} {L : Nat} {w : World} {sa : Option Addr} {n c : Nat} {es : List α} (h : Rw E S L w (.slice sa n c) es) : n ≤ c := by
 rcases h.1.2 with ⟨h0, _⟩ | ⟨g, cap, cur, hv, _, _, hc, _⟩
 ·cases h0; exact Nat.le_refl _
 ·cases hv; exact hc
theorem Rw.news {E : Elt α} {S : Nat → Prop} {L : Nat} {w : World} {g n c : Nat} {es : List α} (h : Rw E S L w (.slice (some ⟨g, 0, none⟩) n c) es) : ∀ j u, (es.flatMap E.cells)[j]? = some u → w.cell? ((⟨g, 0, none⟩ : Addr).add j) = some u := by
 intro j u hu
 have e : (⟨g, 0, none⟩ : Addr).add j = ⟨g, j, none⟩ := by
  simp [Addr.add]; intro h; exact h.symm
 rcases h.1.2 with ⟨h0, _⟩ | ⟨g', cap, cur, hv, _, hg, _, _, _, htk⟩
 ·cases h0
 ·cases hv
  rw [← htk, List.getElem?_take] at hu
  split at hu
  ·rw [e]
   simp only [World.cell?, hg]
   simpa using hu
  ·cases hu
theorem row_app1 {E : Elt α} {S : Nat → Prop} {L : Nat} {W w6 : World} {v : Value} {es : List α} {news : List Value} {g cap n xr H : Nat}
  (R : Rw E S L W v es) (O : w6.ownsRow L E.T E.sz (.slice (some ⟨g, 0, none⟩) n cap) n (es.flatMap E.cells ++ news)) (G : W.grownBy w6 v.ownBlock) (A : v.ownBlock = some g ∨ g = H) (hH : W.heap.size = H)
  (hlg : g < w6.heap.size) (hxr : v.ownBlock = none ∨ v.ownBlock = some xr) (hSH : S H) :
  Kq xr W w6 ∧ (S g ∧ g < w6.heap.size) ∧
  (∀ ys : List α, ys ≠ [] → ys.flatMap E.cells = news → n = es.length + ys.length → (∀ y ∈ ys, E.P (fun k => S k ∧ some k ≠ v.ownBlock) W y) → Rw E S L w6 (.slice (some ⟨g, 0, none⟩) n cap) (es ++ ys)) := by
 have hSg : S g := by
  rcases A with A | A
  ·exact R.2.1 g A
  ·rw [A]; exact hSH
 refine ⟨?_, ⟨hSg, hlg⟩, ?_⟩
 ·refine ⟨G.os, G.tape, G.output, G.size, fun k hk h2 => ?_⟩
  have hr : some k ≠ v.ownBlock := by
   rcases hxr with h | h
   ·rw [h]; simp
   ·rw [h]; intro e; exact h2 (Option.some.inj e)
  exact G.block k hk hr
 ·intro ys hys hf hn' hP
  subst hf
  subst hH
  exact R.push ys hys hP (w' := w6) hSg hn' O G A
theorem part_any (M : Nat) (IH : ∀ M', M' < M → CItems M') : CPart M := by
 intro br s c m w h hM h1
 have X0 := hI h
 have hlt := h.lt
 have HM := hI hM
 have HI := hI IH
 have K0 : Hid (Kq br w w) := Kq.refl _ _
 clear hM IH h
 go_enter Tryz.func59, Tryz.ntmps59
 go_wp2_with fail
 refine (must_any X0.out _).mono ?_
 rintro e w1 ⟨rfl, hk, c1, m1, hx, ha⟩
 have z1 : w.heap.size ≤ w1.heap.size := hk.size
 have KK := hI hk
 have K1 : Hid (Kq br w w1) := K0.out.trans hk
 have X1 := hI hx
 have A1 := hI ha
 clear hk hx ha
 clear KK
 go_wp2_with fail
 refine (must_any X1.out _).mono ?_
 rintro e w2 ⟨rfl, hk, c2, m2, hx, ha⟩
 have z2 : w1.heap.size ≤ w2.heap.size := hk.size
 have KK := hI hk
 have K2 : Hid (Kq br w w2) := K1.out.trans hk
 have X2 := hI hx
 have A2 := hI ha
 clear hk hx ha
 clear KK
 go_wp2_with fail
 refine (name_any X2.out).mono ?_
 rintro e w3 ⟨nm3, rfl, hnm3, hk, c3, m3, hx, ha⟩
 have z3 : w2.heap.size ≤ w3.heap.size := hk.size
 have KK := hI hk
 have K3 : Hid (Kq br w w3) := K2.out.trans hk
 have X3 := hI hx
 have A3 := hI ha
 clear hk hx ha
 clear KK
 go_wp2_with fail
 have HL : Hid (meas c3 m3 < M) := meas_adv (Adv.trans (A1.out) (Adv.trans (A2.out) (A3.out))) HM.out h1
 refine (HI.out _ HL.out _ br s c3 m3 w3 X3.out (Nat.le_refl _)).mono ?_
 rintro e w4 ⟨sa4, sl4, sc4, rfl, hk, c4, m4, hx, hmm4, hcc4, hp⟩
 have z4 : w3.heap.size ≤ w4.heap.size := hk.size
 have KK := hI hk
 have K4 : Hid (Kq br w w4) := K3.out.trans hk
 have X4 := hI hx
 have P4_4 := hI (rw_born hp)
 clear hk hx hp
 clear KK
 have HCC4 := hI hcc4
 clear hcc4 HL HI HM
 go_wp2_with fail
 refine (must_any X4.out _).mono ?_
 rintro e w5 ⟨rfl, hk, c5, m5, hx, ha⟩
 have z5 : w4.heap.size ≤ w5.heap.size := hk.size
 have KK := hI hk
 have K5 : Hid (Kq br w w5) := K4.out.trans hk
 have X5 := hI hx
 have A5 := hI ha
 clear hk hx ha
 have P4_5 := hI (rw_to P4_4.out (fun k o hb h => KK.out.get (by omega) h))
 clear P4_4
 clear KK
 go_wp2_with fail
 go_ret2
 refine ⟨_, _, _, _, rfl, K5.out, c5, m5, X5.out, adv_ge (Adv.trans (A1.out) (Adv.trans (A2.out) (A3.out))) HCC4.out hmm4 A5.out, fun hc => ?_⟩
 obtain ⟨hc4, hm5⟩ := A5.out.2 hc
 obtain ⟨hc2, hm3⟩ := A3.out.2 (HCC4.out hc4)
 obtain ⟨hc1, hm2⟩ := A2.out.2 hc2
 obtain ⟨_, hm1⟩ := A1.out.2 hc1
 obtain ⟨es, hR, hl⟩ := P4_5.out hc4
 refine ⟨es, hR.sub2 (by omega) (fun b hb => by show _ ≤ _; omega), ?_⟩
 rw [partTxt_len, len_of]
 omega
theorem items_any (M : Nat) (CI : CItem M) : CItems M := by
 intro t br s c m w h hM
 have X0 := hI h
 have hlt := h.lt
 have hm60 : m ≤ 60001 := h.le
 have HM := hI hM
 have HI := hI CI
 have K0 : Hid (Kq br w w) := Kq.refl _ _
 clear hM CI h
 go_enter Tryz.func22, Tryz.ntmps22
 go_wp2_with fail
 go_loopg [5] (meas c m) (fun gk o wr => ∃ (cr : Int) (mr : Nat) (sa : Option Addr) (sl sc : Nat), o = .slice sa sl sc ∧ gk = meas cr mr ∧ Hid (Sx br s wr cr mr) ∧ Hid (Kq br w wr) ∧ w.heap.size ≤ wr.heap.size ∧ Hid (cr = 0 → ∃ xs : List ItemD, Rw elI (fun b => w.heap.size ≤ b) w.heap.size wr (.slice sa sl sc) xs ∧ (xs.length + 2 * mr ≤ 2 * m ∧ (xs.map (fun x : ItemD => x.2)).flatten.length ≤ 4000000 * (m - mr))) ∧ mr ≤ m ∧ Hid (cr = 0 → c = 0))
 case atStart => exact ⟨c, m, none, 0, 0, rfl, rfl, X0, K0, Nat.le_refl _, (fun _ => ⟨[], Rw.nil _ _ _ _, by simp⟩ : Hid _), Nat.le_refl _, (fun h => h : Hid _)⟩
 case round =>
  obtain ⟨cr, mr, sa, sl, sc, rfl, hgk, XR, KR, zR, PL_r, hmr, HC⟩ := hrel
  clear X0 K0
  have XS := XR.out
  obtain ⟨kt, wdt, nt, Tt, at9, qt, fat, hra, h'⟩ := XS
  obtain ⟨f0, f1, f2, f3, f4, f5, f6, f7, f8, fz⟩ := hra.all
  clear h' hra
  by_cases hcz : cr = 0
  ·subst hcz
   obtain ⟨es, hR, hn, hl⟩ := PL_r.out rfl
   have HR := hI hR.strong
   have HLL := hI (And.intro hl hn)
   have hc0 := HC.out rfl
   clear HC
   have HC := hI hc0
   have hM1 : Hid (mr + 1 ≤ M) := by have h1 := HM.out; rw [hc0] at h1; simp only [meas, if_pos] at h1; show _ ≤ _; omega
   clear hR hl hc0 PL_r HM
   go_wp2_with fail
   clear f0 f1 f2 f3 f4 f5 f6 f7 f8 fz
   refine is_alt XR.out _ ?_ ?_
   ·intro _ _ _ _ _
    go_wp2_with fail
    go_ret
    obtain ⟨hl, hn⟩ := HLL.out
    exact ⟨_, _, _, rfl, KR.out, 0, mr, XR.out, hmr, (fun _ => HC.out), fun _ => ⟨es, HR.out.sub fun b hb => by show _ ≤ _; omega, by omega⟩⟩
   go_wp2_with fail
   refine (HI.out br s mr wr XR.out hM1.out).mono ?_
   rintro e w5 ⟨sa5, sl5, sc5, rfl, hk, c5, m5, hx, ha, hp⟩
   have z5 : wr.heap.size ≤ w5.heap.size := hk.size
   have KK := hI hk
   have K5 : Hid (Kq br w w5) := KR.out.trans hk
   have X5 := hI hx
   have A5 := hI ha
   have P5_5 := hI (its_born hp)
   clear hk hx ha hp
   have PL_5 := hI (Rw.to HR.out (fun k o hb h => KK.out.get (by omega) h))
   clear HR
   clear KK
   obtain ⟨rs, hrw, hron, hrk, hrc⟩ := P5_5.out
   have HRW := hI hrw
   have HRO := hI hron
   have HRC := hI hrc
   clear hrw hron hrc P5_5
   have hm5 : m5 ≤ mr := A5.out.1
   by_cases hrs : rs = []
   have hcap : sl ≤ sc := Rw.cap PL_5.out
   ·subst hrs
    have hv := HRW.out.2.2.2 rfl
    simp only [Value.slice.injEq] at hv
    obtain ⟨rfl, rfl, rfl⟩ := hv
    have hcd : Hid (c5 = 0 → ∃ xs : List ItemD, Rw elI (fun b => w.heap.size ≤ b) w.heap.size w5 (.slice sa sl sc) xs ∧ (xs.length + 2 * m5 ≤ 2 * m ∧ (xs.map (fun x : ItemD => x.2)).flatten.length ≤ 4000000 * (m - m5))) := fun hc => ⟨es, (PL_5.out.sub (S' := fun b => w.heap.size ≤ b) (fun b hb => by show w.heap.size ≤ b; omega)), by omega, by have := HLL.out; omega⟩
    by_cases hes : es = []
    ·have hv2 := PL_5.out.2.2.2 hes
     simp only [Value.slice.injEq] at hv2
     obtain ⟨rfl, rfl, rfl⟩ := hv2
     go_wp2_with fail
     go_roundg (meas c5 m5)
     case measure => have := meas_next A5.out; omega
     case rel => exact ⟨c5, m5, _, _, _, rfl, rfl, X5, K5, by omega, hcd, by omega, (fun _ => HC.out : Hid _)⟩
    ·obtain ⟨g1, rfl, hsl1, _, _, _⟩ := PL_5.out.form (List.length_pos_iff.2 hes)
     clear hsl1
     go_wp2_with fail
     go_roundg (meas c5 m5)
     case measure => have := meas_next A5.out; omega
     case rel => exact ⟨c5, m5, _, _, _, rfl, rfl, X5, K5, by omega, hcd, by omega, (fun _ => HC.out : Hid _)⟩
   ·have hpos : 0 < rs.length := List.length_pos_iff.2 hrs
    obtain ⟨g0, rfl, hsl, hgL, hgS, hg8⟩ := HRW.out.form hpos
    have hgS : wr.heap.size ≤ g0 ∧ g0 < w5.heap.size := hgS
    subst hsl
    obtain ⟨xr6, hxo6, hxS6, hxL6, hxN6⟩ := Rw.own2 (PL_5.out.sub (S' := fun b => w.heap.size ≤ b) (fun b hb => by show w.heap.size ≤ b; omega)) (x0 := w5.heap.size) (by show w.heap.size ≤ w5.heap.size; omega) (by omega)
    have hxS6 : w.heap.size ≤ xr6 := hxS6
    have HXO6 := hI hxo6
    clear hxo6 hxN6
    obtain ⟨i5, hi, hzz, hsz, hby⟩ := info95'
    have HI5 := hI hi
    have HZ5 := hI hzz
    have HS5 := hI hsz
    have HB5 := hI hby
    clear hi hzz hsz hby
    have HLE5 : Hid ((rs.flatMap elR.cells).length = rs.length * 65) := HRW.out.1.1
    have HON5 : Hid (∀ u ∈ rs.flatMap elR.cells, u.oneCell' = true) := by intro u hu; obtain ⟨x, hx, hux⟩ := List.mem_flatMap.1 hu; exact HRO.out x hx u hux
    go_wp2_with ((with_reducible refine wpList_id ?_); at_builtin; refine wpList_append_lies _ rfl (.tmp 21) (.tmp 22) 38 rfl (w.heap.size) 95 i5 _ 65 832 Tryz.underlying38 HI5.out HZ5.out HS5.out HB5.out rfl (by decide) (.slice sa sl sc) es.length _ rfl ((PL_5.out.sub (S' := fun b => w.heap.size ≤ b) (fun b hb => by show w.heap.size ≤ b; omega))).1 ⟨g0, 0, none⟩ rs.length sc5 (rs.flatMap elR.cells) rfl HLE5.out HRW.out.news HON5.out hpos (by simp only [maxLen]; omega) (by omega) (by omega) _ rfl ?_; intro g6 cap6 w6 hownX hgrowX hatX hltX; have OB := hI hownX; have GB := hI hgrowX; have TB := hI hatX; clear hownX hgrowX hatX)
    obtain ⟨kk, ⟨sg6, sz6⟩, rr⟩ := row_app1 (S := fun b => w.heap.size ≤ b) (xr := xr6) (PL_5.out.sub (S' := fun b => w.heap.size ≤ b) (fun b hb => by show w.heap.size ≤ b; omega)) OB.out GB.out TB.out rfl hltX HXO6.out (by show w.heap.size ≤ _; omega)
    have z6 : w5.heap.size ≤ w6.heap.size := kk.size
    have K6 : Hid (Kq br w w6) := K5.out.comp kk (by omega)
    have X6 : Hid (Sx br s w6 c5 m5) := kk.sx (by omega) X5.out
    have hcd : Hid (c5 = 0 → ∃ xs : List ItemD, Rw elI (fun b => w.heap.size ≤ b) w.heap.size w6 (.slice (some ⟨g6, 0, none⟩) (es.length + rs.length) cap6) xs ∧ (xs.length + 2 * m5 ≤ 2 * m ∧ (xs.map (fun x : ItemD => x.2)).flatten.length ≤ 4000000 * (m - m5))) := by
     intro hc
     obtain ⟨es5, hR5, hrs5, hn5, hl5⟩ := HRC.out hc
     have hl0 := HLL.out
     refine ⟨es ++ es5, rr es5 (by intro e; rw [e] at hrs5; exact hrs hrs5) (by rw [hrs5]; exact (flat_id es5).symm) (by rw [hrs5, List.length_map]) ?_, ?_, ?_⟩
     ·intro y hy
      refine elI.mono ?_ (fun _ _ _ _ hu => hu) (hR5.2.2.1 y hy)
      intro b hb
      have h1 : wr.heap.size ≤ b ∧ b < w5.heap.size := hb.1
      exact ⟨by show w.heap.size ≤ b; omega, Rw.not_own PL_5.out (by show ¬ (w.heap.size ≤ b ∧ b < wr.heap.size); omega)⟩
     ·rw [lnA]; omega
     ·rw [List.map_append, List.flatten_append, lnA]; omega
    go_roundg (meas c5 m5)
    case measure => have := meas_next A5.out; omega
    case rel => exact ⟨c5, m5, _, _, _, rfl, rfl, X6, K6, by omega, hcd, by omega, (fun _ => HC.out : Hid _)⟩
  ·have g1 : (cr == 0) = false := beq_eq_false_iff_ne.2 hcz
   go_wp2_with fail
   clear g1
   clear f0 f1 f2 f3 f4 f5 f6 f7 f8 fz
   have hcn := hcz
   go_ret
   exact ⟨_, _, _, rfl, KR.out, cr, mr, XR.out, hmr, HC.out, fun hc => absurd hc hcn⟩
end Go.Proofs.YtimmmlnememjiaaGreatDoor
