import Derived.Test.YtimmmlnememjiaaGreatDoorX
import Derived.Test.YtimmmlnememjiaaGreatDoorX00
import Derived.Test.YtimmmlnememjiaaGreatDoorX05
import Derived.Test.YtimmmlnememjiaaGreatDoorX02
import Derived.Deep.AppendLies
import Derived.Deep.LoopGhost
set_option maxRecDepth 100000
set_option maxHeartbeats 16000000
namespace Go.Proofs.YtimmmlnememjiaaGreatDoor
open Go.RowKit
abbrev Ele : Type := Int × List Value × List UInt8
theorem cell_lt {w : World} {b o : Nat} {v : Value} (h : w.cell? ⟨b, o, none⟩ = some v) : b < w.heap.size := by
 rcases Nat.lt_or_ge b w.heap.size with h1 | h1
 ·exact h1
 ·simp only [World.cell?, Array.getElem?_eq_none h1] at h; cases h
theorem PE.len {S : Nat → Prop} {w : World} {k : Int} {cs : List Value} {t : List UInt8} (h : PE S w k cs t) : cs.length = 7 := by
 obtain ⟨a, op, wd, n, nm, sl, rfl⟩ := h.seven; rfl
theorem PE.strong {S : Nat → Prop} {w : World} {k : Int} {cs : List Value} {t : List UInt8} (h : PE S w k cs t) : PE (fun b => S b ∧ b < w.heap.size) w k cs t := by
 induction h with
 | num a op wd n nm sa sl sc h1 h2 h3 h4 => exact PE.num a op wd n nm sa sl sc h1 h2 h3 h4
 | name a op wd n nm sa sl sc => exact PE.name a op wd n nm sa sl sc
 | node k a op wd n nm b cap es hk hSb hcap hel hce ih =>
  refine PE.node k a op wd n nm b cap es hk ⟨hSb, ?_⟩ hcap ih hce
  have hl : 0 < es.length := by rcases hk with h | h | h | h | h | h | h <;> omega
  have hx : es[0]? = some es[0] := List.getElem?_eq_getElem hl
  have h7 := (hel 0 _ hx).len
  have hv : es[0].2.1[0]? = some (es[0].2.1[0]'(by omega)) := List.getElem?_eq_getElem (by omega)
  exact cell_lt (hce 0 _ hx 0 _ hv)
def Els (L : Nat) (w : World) (v : Value) (es : List Ele) : Prop :=
 w.ownsRow L 55 7 v es.length (es.flatMap (·.2.1)) ∧ ∀ x ∈ es, PE (fun b => L ≤ b ∧ some b ≠ v.ownBlock) w x.1 x.2.1 x.2.2
theorem Els.nil (L : Nat) (w : World) : Els L w (.slice none 0 0) [] := ⟨World.ownsRow_nil w L 55 7, fun x h => by cases h⟩
theorem Els.to {L : Nat} {w w' : World} {v : Value} {es : List Ele} (h : Els L w v es) (hb : ∀ k, L ≤ k → k < w.heap.size → w'.heap[k]? = w.heap[k]?) : Els L w' v es := by
 refine ⟨⟨h.1.1, ?_⟩, fun x hx => ?_⟩
 ·rcases h.1.2 with h0 | ⟨g, cap, cur, hv, hL, hg, hr⟩
  ·exact .inl h0
  ·refine .inr ⟨g, cap, cur, hv, hL, ?_, hr⟩
   have hlt : g < w.heap.size := by
    rcases Nat.lt_or_ge g w.heap.size with h1 | h1
    ·exact h1
    ·rw [Array.getElem?_eq_none h1] at hg; cases hg
   rw [hb g hL hlt]; exact hg
 ·exact (h.2 x hx).mono (fun b h => h) (fun b o u hS hu => by
   rw [World.cell?_of_block (a := ⟨b, o, none⟩) (hb b hS.1 (cell_lt hu))]; exact hu)
theorem Els.kq {L br : Nat} {w w' : World} {v : Value} {es : List Ele} (h : Els L w v es) (hk : Kq br w w') (hbr : br < L) : Els L w' v es :=
 h.to fun k h1 h2 => hk.block k h2 (by omega)
theorem PE.kq {L br : Nat} {w w' : World} {k : Int} {cs : List Value} {t : List UInt8} (h : PE (fun b => L ≤ b) w k cs t) (hk : Kq br w w') (hbr : br < L) : PE (fun b => L ≤ b) w' k cs t :=
 h.mono (fun b h => h) (fun b o u hS hu => by rw [World.cell?_of_block (a := ⟨b, o, none⟩) (hk.block b (cell_lt hu) (by have hS' : L ≤ b := hS; omega))]; exact hu)
theorem flat_get (f : Ele → List Value) (es : List Ele) (h7 : ∀ x ∈ es, (f x).length = 7) (i j : Nat) (hj : j < 7) : (es.flatMap f)[i * 7 + j]? = (es[i]?).bind fun x => (f x)[j]? := by
 induction es generalizing i with
 | nil => simp
 | cons y r ih =>
  have hy := h7 y (by simp)
  rw [List.flatMap_cons]
  cases i with
  | zero =>
   rw [List.getElem?_append_left (by omega)]; simp
  | succ i =>
   rw [List.getElem?_append_right (by omega), show (i + 1) * 7 + j - (f y).length = i * 7 + j from by omega, ih (fun x hx => h7 x (by simp [hx]))]
   simp
theorem Els.push {L : Nat} {w w' : World} {v : Value} {es : List Ele} (h : Els L w v es) (x : Ele) (hx : PE (fun b => L ≤ b ∧ some b ≠ v.ownBlock) w x.1 x.2.1 x.2.2) {g cap : Nat}
  (hown : w'.ownsRow L 55 7 (.slice (some ⟨g, 0, none⟩) (es.length + 1) cap) (es.length + 1) (es.flatMap (·.2.1) ++ x.2.1)) (hgrow : w.grownBy w' v.ownBlock) (hat : v.ownBlock = some g ∨ g = w.heap.size) :
  Els L w' (.slice (some ⟨g, 0, none⟩) (es.length + 1) cap) (es ++ [x]) := by
 refine ⟨?_, fun y hy => ?_⟩
 ·have e : (es ++ [x]).flatMap (·.2.1) = es.flatMap (·.2.1) ++ x.2.1 := by simp
  rw [e, lnA]; exact hown
 ·have hp : PE (fun b => L ≤ b ∧ some b ≠ v.ownBlock) w y.1 y.2.1 y.2.2 := by
   rcases List.mem_append.1 hy with hy | hy
   ·exact h.2 y hy
   ·rw [List.mem_singleton] at hy; subst hy; exact hx
  refine hp.strong.mono ?_ ?_
  ·intro b hb
   refine ⟨hb.1.1, ?_⟩
   intro e
   have e' : b = g := Option.some.inj e
   rcases hat with hat | hat
   ·exact hb.1.2 (by rw [hat, e'])
   ·have := hb.2; omega
  ·intro b o u hb hu
   rw [World.cell?_of_block (a := ⟨b, o, none⟩) (hgrow.block b (cell_lt hu) hb.1.2)]; exact hu
theorem Els.node {L : Nat} {w : World} {v : Value} {es : List Ele} (h : Els L w v es) (k a op wd n : Int) (nm : List UInt8) (hk : Shape k op es.length) :
  PE (fun b => L ≤ b) w k [.int .i64 k, .int .i64 a, .int .i64 op, .int .i64 wd, .int .u64 n, .string (bs nm), v] (nodeTxt k op nm es) := by
 have hl : 0 < es.length := by rcases hk with h | h | h | h | h | h | h <;> omega
 rcases h.1.2 with ⟨_, h0⟩ | ⟨g, cap, cur, rfl, hL, hg, hc, _, hsz, htk⟩
 ·omega
 ·refine PE.node k a op wd n nm g cap es hk hL hc (fun i x hx => (h.2 x (List.mem_of_getElem? hx)).mono (fun b hb => hb.1) (fun b o u _ hu => hu)) (fun i x hx j u hu => ?_)
  have hi : i < es.length := (List.getElem?_eq_some_iff.1 hx).1
  have h7 : ∀ y ∈ es, y.2.1.length = 7 := fun y hy => (h.2 y hy).len
  have hj : j < 7 := by
   have := (List.getElem?_eq_some_iff.1 hu).1
   rw [h7 x (List.mem_of_getElem? hx)] at this; exact this
  have hf := flat_get (fun y : Ele => y.2.1) es h7 i j hj
  rw [hx] at hf
  simp only [Option.bind_some] at hf
  rw [hu, ← htk, List.getElem?_take] at hf
  split at hf
  ·simp only [World.cell?, hg]
   simpa using hf
  ·cases hf
def ExPost (br : Nat) (s : ByteArray) (c : Int) (m : Nat) (w : World) (e : Ending) (w' : World) : Prop :=
 ∃ (k a op wd n : Int) (nm : ByteArray) (sa : Option Addr) (sl sc : Nat), e = .returned (.agg #[.int .i64 k, .int .i64 a, .int .i64 op, .int .i64 wd, .int .u64 n, .string nm, .slice sa sl sc]) ∧ Kq br w w' ∧
  ∃ (c' : Int) (m' : Nat), Sx br s w' c' m' ∧ Adv c m c' m' ∧
   (c' = 0 → ∃ t, PE (fun b => w.heap.size ≤ b) w' k [.int .i64 k, .int .i64 a, .int .i64 op, .int .i64 wd, .int .u64 n, .string nm, .slice sa sl sc] t ∧ t.length ≤ 64 * (m - m'))
def meas (c : Int) (m : Nat) : Nat := if c = 0 then m + 1 else 0
def CExpr (M : Nat) : Prop := ∀ (br : Nat) (s : ByteArray) (c : Int) (m : Nat) (w : World), Sx br s w c m → meas c m ≤ M → Calls Tryz.prog 19 #[.pointer (some ⟨br, 0, none⟩)] w (ExPost br s c m w)
theorem bx {W : World} {b : Nat} {T : TypeId} {v0 v1 v2 v3 v4 v5 v6 : Value} (h : W.heap[b]? = some (.cells #[v0, v1, v2, v3, v4, v5, v6] T)) :
  W.cell? ⟨b, 0, none⟩ = some v0 ∧ W.cell? ⟨b, 1, none⟩ = some v1 ∧ W.cell? ⟨b, 2, none⟩ = some v2 ∧ W.cell? ⟨b, 3, none⟩ = some v3 ∧ W.cell? ⟨b, 4, none⟩ = some v4 ∧ W.cell? ⟨b, 5, none⟩ = some v5 ∧ W.cell? ⟨b, 6, none⟩ = some v6 ∧ (∀ o, W.frozen? ⟨b, o, none⟩ = false) ∧ b < W.heap.size := by
 have hl : b < W.heap.size := by
  rcases Nat.lt_or_ge b W.heap.size with h1 | h1
  ·exact h1
  ·rw [Array.getElem?_eq_none h1] at h; cases h
 refine ⟨?_, ?_, ?_, ?_, ?_, ?_, ?_, ?_, hl⟩ <;> simp [World.cell?, World.frozen?, h]
theorem heap_alloc_self (w : World) (o : Obj) : (w.alloc o).heap[w.heap.size]? = some o := by
 show (w.heap.push o)[w.heap.size]? = _
 simp
theorem two_boxes {w W : World} {o1 o2 : Obj} (hW : (w.alloc o1).alloc o2 = W) :
  W.heap.size = w.heap.size + 2 ∧ W.heap[w.heap.size]? = some o1 ∧ W.heap[w.heap.size + 1]? = some o2 ∧ (∀ br, Hid (Kq br w W)) ∧ (∀ br s c m, Sx br s w c m → Hid (Sx br s W c m)) := by
 subst hW
 refine ⟨by simp, ?_, ?_, fun br => ((Kq.refl _ _).alloc _).alloc _, fun br s c m h => (h.alloc _).alloc _⟩
 ·rw [Below.heap_alloc _ _ _ (by simp)]; exact heap_alloc_self w _
 ·have h := heap_alloc_self (w.alloc o1) o2
  rw [World.size_alloc] at h
  exact h
theorem set_box {w1 w2 : World} {b o : Nat} {u : Value} {cs : Array Value} {T : TypeId} (h : w1.setCell ⟨b, o, none⟩ u = w2) (hb : w1.heap[b]? = some (.cells cs T)) :
  w2.heap[b]? = some (.cells (cs.setIfInBounds o u) T) ∧ w2.heap.size = w1.heap.size ∧ (∀ k, k ≠ b → w2.heap[k]? = w1.heap[k]?) ∧ (∀ br a, Kq br a w1 → a.heap.size ≤ b → Hid (Kq br a w2)) ∧ (∀ br s c m, Sx br s w1 c m → br ≠ b → Hid (Sx br s w2 c m)) := by
 subst h
 exact ⟨heap_setCell_self hb, by simp [World.setCell], fun k hk => Below.heap_setCell _ _ _ _ hk, fun br a hk hl => hk.setCell (p := ⟨b, o, none⟩) (Or.inr hl) u, fun br s c m hx hn => hx.setCell hn u⟩
theorem Kq.set7 {br : Nat} {a w : World} (h : Kq br a w) {b : Nat} (hb : a.heap.size ≤ b) (u0 u1 u2 u3 u4 u5 u6 : Value) :
  Kq br a (((((((w.setCell ⟨b, 0, none⟩ u0).setCell ⟨b, 1, none⟩ u1).setCell ⟨b, 2, none⟩ u2).setCell ⟨b, 3, none⟩ u3).setCell ⟨b, 4, none⟩ u4).setCell ⟨b, 5, none⟩ u5).setCell ⟨b, 6, none⟩ u6) :=
 have o := fun (w : World) (h : Kq br a w) (i : Nat) (u : Value) => h.setCell (p := ⟨b, i, none⟩) (Or.inr hb) u
 o _ (o _ (o _ (o _ (o _ (o _ (o _ h 0 u0) 1 u1) 2 u2) 3 u3) 4 u4) 5 u5) 6 u6
theorem heap_set7 {w : World} {b k : Nat} (hb : k ≠ b) (u0 u1 u2 u3 u4 u5 u6 : Value) :
  (((((((w.setCell ⟨b, 0, none⟩ u0).setCell ⟨b, 1, none⟩ u1).setCell ⟨b, 2, none⟩ u2).setCell ⟨b, 3, none⟩ u3).setCell ⟨b, 4, none⟩ u4).setCell ⟨b, 5, none⟩ u5).setCell ⟨b, 6, none⟩ u6).heap[k]? = w.heap[k]? := by
 rw [Below.heap_setCell _ _ _ _ hb, Below.heap_setCell _ _ _ _ hb, Below.heap_setCell _ _ _ _ hb, Below.heap_setCell _ _ _ _ hb, Below.heap_setCell _ _ _ _ hb, Below.heap_setCell _ _ _ _ hb, Below.heap_setCell _ _ _ _ hb]
theorem bs_of (T : ByteArray) : bs T.data.toList = T := by simp [bs]
theorem len_of (T : ByteArray) : T.data.toList.length = T.size := by rw [Array.length_toList]; rfl
theorem info55 : (Tryz.prog.info? 55).map (fun i => (i.zero, i.size, i.bytes)) = some (some (.agg #[.int .i64 0, .int .i64 0, .int .i64 0, .int .i64 0, .int .u64 0, .string ⟨#[]⟩, .slice none 0 0]), 7, 80) := by kernel_rfl
theorem info55' : ∃ i, Tryz.prog.info? 55 = some i ∧ i.zero = some (.agg #[.int .i64 0, .int .i64 0, .int .i64 0, .int .i64 0, .int .u64 0, .string ⟨#[]⟩, .slice none 0 0]) ∧ i.size = 7 ∧ i.bytes = 80 := by
 have h := info55
 cases hi : Tryz.prog.info? 55 with
 | none => rw [hi] at h; cases h
 | some i => rw [hi] at h; simp at h; exact ⟨i, rfl, h.1, h.2.1, h.2.2⟩
theorem meas_lt {m m' m3 M : Nat} {c : Int} (h : Adv c m 0 m') (h3 : m3 < m') (hM : meas c m ≤ M) : meas 0 m3 < M := by
 obtain ⟨rfl, h2⟩ := h.2 rfl
 simp only [meas, if_pos] at *
 omega
theorem grown_box {w4 w5 : World} {o1 o2 : Obj} {row : Option Nat} (hg : ((w4.alloc o1).alloc o2).grownBy w5 row) {k : Nat} (hk : k < w4.heap.size) (hr : some k ≠ row) : w5.heap[k]? = w4.heap[k]? := by
 rw [hg.block k (by simp; omega) hr, Below.heap_alloc _ _ _ (by simp; omega), Below.heap_alloc _ _ _ hk]
theorem grown_kq {br : Nat} {w w4 w5 : World} {o1 o2 : Obj} {row : Option Nat} (K : Kq br w w4) (hg : ((w4.alloc o1).alloc o2).grownBy w5 row) (hr : ∀ k, row = some k → w.heap.size ≤ k) : Kq br w w5 := by
 have h := hg.size
 simp at h
 have K' := K.size
 refine ⟨hg.os.trans K.os, hg.tape.trans K.tape, hg.output.trans K.output, by omega, fun k hk hn => ?_⟩
 rw [grown_box hg (by omega) (fun e => by have := hr k e.symm; omega)]
 exact K.block k hk hn
theorem seven_one {k a op wd n : Int} {nm : ByteArray} {sa : Option Addr} {sl sc : Nat} : ∀ u ∈ [Value.int .i64 k, .int .i64 a, .int .i64 op, .int .i64 wd, .int .u64 n, .string nm, .slice sa sl sc], u.oneCell' = true := by
 intro u hu
 simp at hu
 rcases hu with rfl | rfl | rfl | rfl | rfl | rfl | rfl <;> rfl
theorem seven_new (w : World) (o : Obj) (T : TypeId) (v0 v1 v2 v3 v4 v5 v6 : Value) : ∀ j u, [v0, v1, v2, v3, v4, v5, v6][j]? = some u → ((w.alloc o).alloc (.cells #[v0, v1, v2, v3, v4, v5, v6] T)).cell? ((⟨w.heap.size + 1, 0, none⟩ : Addr).add j) = some u := by
 intro j u hu
 have e : (⟨w.heap.size + 1, 0, none⟩ : Addr).add j = ⟨(w.alloc o).heap.size, j, none⟩ := by
  simp [Addr.add]; intro h; exact h.symm
 rw [e, World.cell?_alloc_new, ← hu]
 rw [List.getElem?_toArray]
theorem els_push {L N : Nat} {w4 w5 : World} {o1 o2 : Obj} {v : Value} {es : List Ele} (hE : Els L w4 v es) (x : Ele) (hx : PE (fun b => N ≤ b) w4 x.1 x.2.1 x.2.2) (hN : ∀ g, v.ownBlock = some g → g < N) (hLN : L ≤ N) {g cap : Nat}
  (hown : w5.ownsRow L 55 7 (.slice (some ⟨g, 0, none⟩) (es.length + 1) cap) (es.length + 1) (es.flatMap (·.2.1) ++ x.2.1)) (hgrow : ((w4.alloc o1).alloc o2).grownBy w5 v.ownBlock) (hat : v.ownBlock = some g ∨ g = ((w4.alloc o1).alloc o2).heap.size) :
  Els L w5 (.slice (some ⟨g, 0, none⟩) (es.length + 1) cap) (es ++ [x]) := by
 have hal : ∀ k, k < w4.heap.size → ((w4.alloc o1).alloc o2).heap[k]? = w4.heap[k]? := fun k hk => by
  rw [Below.heap_alloc _ _ _ (by simp; omega), Below.heap_alloc _ _ _ hk]
 refine (hE.to (w' := (w4.alloc o1).alloc o2) fun k _ hk => hal k hk).push x ?_ hown hgrow hat
 refine hx.mono ?_ ?_
 ·intro b hb
  refine ⟨Nat.le_trans hLN hb, ?_⟩
  intro e
  have h1 := hN b e.symm
  have h2 : N ≤ b := hb
  omega
 ·intro b o u _ hu
  rw [World.cell?_of_block (a := ⟨b, o, none⟩) (hal b (cell_lt hu))]; exact hu
theorem els_alloc2 {L : Nat} {w : World} {v : Value} {es : List Ele} (h : Els L w v es) (o1 o2 : Obj) : Els L ((w.alloc o1).alloc o2) v es :=
 h.to fun k _ hk => by rw [Below.heap_alloc _ _ _ (by simp; omega), Below.heap_alloc _ _ _ hk]
theorem Els.at {L : Nat} {w : World} {g n cap : Nat} {es : List Ele} (h : Els L w (.slice (some ⟨g, 0, none⟩) n cap) es) (hn : 0 < es.length) : L ≤ g ∧ g < w.heap.size := by
 obtain ⟨g', cap', e, h1, h2⟩ := h.1.form hn
 cases e; exact ⟨h1, h2⟩
theorem node3 (op : Int) (nm : List UInt8) (x : Ele) : nodeTxt 3 op nm [x] = nm ++ [91] ++ x.2.2 ++ [93] := rfl
theorem node4 (op : Int) (nm : List UInt8) (x y : Ele) : nodeTxt 4 op nm [x, y] = nm ++ [91] ++ x.2.2 ++ [58] ++ y.2.2 ++ [93] := rfl
theorem pe_set7 {L L' : Nat} {w : World} {k : Int} {cs : List Value} {t : List UInt8} (h : PE (fun b => L' + 2 ≤ b) w k cs t) (u0 u1 u2 u3 u4 u5 u6 : Value) (hL : L = L' := by rfl) :
  PE (fun b => L' ≤ b) (((((((w.setCell ⟨L, 0, none⟩ u0).setCell ⟨L, 1, none⟩ u1).setCell ⟨L, 2, none⟩ u2).setCell ⟨L, 3, none⟩ u3).setCell ⟨L, 4, none⟩ u4).setCell ⟨L, 5, none⟩ u5).setCell ⟨L, 6, none⟩ u6) k cs t := by
 subst hL
 refine h.mono ?_ ?_
 ·intro b hb
  have h2 : L + 2 ≤ b := hb
  show L ≤ b
  omega
 ·intro b o u hb hu
  have h2 : L + 2 ≤ b := hb
  have hne : b ≠ L := by omega
  rw [World.cell?_of_block (a := ⟨b, o, none⟩) (heap_set7 hne _ _ _ _ _ _ _)]; exact hu
theorem pe_name_of {S : Nat → Prop} {w : World} (a op wd n : Int) (nm : ByteArray) (sa : Option Addr) (sl sc : Nat) :
  PE S w 2 [.int .i64 2, .int .i64 a, .int .i64 op, .int .i64 wd, .int .u64 n, .string nm, .slice sa sl sc] nm.data.toList := by
 have h := PE.name (S := S) (w := w) a op wd n nm.data.toList sa sl sc
 rw [bs_of] at h; exact h
theorem place_any (M : Nat) (IH : ∀ M', M' < M → CExpr M') (br : Nat) (s : ByteArray) (c : Int) (m : Nat) (w : World) (h : Sx br s w c m) (hM : meas c m ≤ M) :
  Calls Tryz.prog 75 #[.pointer (some ⟨br, 0, none⟩)] w (ExPost br s c m w) := by
 have HX := hI h
 have HM := hI hM
 have HI := hI IH
 clear hM IH
 obtain ⟨k, wd, n, T, a, q, fa, hr, h'⟩ := h
 clear h'
 have hlt := hr.lt
 obtain ⟨c0, c1, c2, c3, c4, c5, c6, c7, c8, fz⟩ := hr.all
 clear hr
 go_enter Tryz.func75, Tryz.ntmps75
 go_wp2_with fail
 generalize hW : (w.alloc (.cells _ 55)).alloc (.cells _ 55) = W
 obtain ⟨hz, r0, e0, KW, SW⟩ := two_boxes hW
 have KW := KW br
 have SW := SW br s c m HX.out
 clear hW c0 c1 c2 c3 c4 c5 c6 c7 c8 fz
 refine (name_any SW.out).mono ?_
 rintro e w1 ⟨nm, rfl, hnm, hk1, c', m', hx1, ha1⟩
 have e1 := hk1.block (w.heap.size + 1) (by omega) (by omega)
 have r1 := hk1.block w.heap.size (by omega) (by omega)
 rw [e0] at e1; rw [r0] at r1
 have K1 : Hid (Kq br w w1) := KW.out.trans hk1
 have z1 : w.heap.size + 2 ≤ w1.heap.size := by have := hk1.size; omega
 have X1 := hI hx1
 have A1 := hI ha1
 have E1 := hI e1
 have R1 := hI r1
 clear hk1 hx1 ha1 KW SW e0 r0
 obtain ⟨p0, p1, p2, p3, p4, p5, p6, pf, pl⟩ := bx e1
 clear e1 r1 hz
 go_wp2_with fail
 generalize hS1 : w1.setCell ⟨w.heap.size + 1, 5, none⟩ (.string nm) = w2
 obtain ⟨e2, z2, o2, k2, x2⟩ := set_box hS1 E1.out
 have K2 := k2 br w K1.out (by omega)
 have X2 := x2 br s c' m' X1.out (by omega)
 have r2 := (o2 w.heap.size (by omega)).trans R1.out
 have E2 := hI e2
 have R2 := hI r2
 have z2' : w.heap.size + 2 ≤ w2.heap.size := by omega
 clear hS1 k2 x2 o2 z2 p0 p1 p2 p3 p4 p5 p6 pf pl K1 X1 E1 R1 z1
 refine (accept_any X2.out _).mono ?_
 rintro e w3 ⟨bo, rfl, hk3, hh⟩
 have HH := hI hh
 have K3 : Hid (Kq br w2 w3) := hk3
 clear hh hk3
 cases bo
 case false =>
  rcases HH.out with ⟨h1, _⟩ | ⟨_, h1⟩
  ·cases h1
  ·subst h1
   obtain ⟨p0, p1, p2, p3, p4, p5, p6, pf, pl⟩ := bx e2
   obtain ⟨q0, q1, q2, q3, q4, q5, q6, qf, ql⟩ := bx r2
   clear e2 r2 HH K3
   go_wp2_with fail
   refine bodyPost_ret (v := .agg #[.int .i64 2, .int .i64 a, .int .i64 0, .int .i64 0, .int .u64 0, .string nm, .slice none 0 0]) (by simp [results, Tryz.results75, go_sem, *]) rfl ?_
   refine ⟨2, a, 0, 0, 0, nm, none, 0, 0, rfl, K2.out.set7 (Nat.le_refl _) _ _ _ _ _ _ _, c', m', X2.out.to (heap_set7 (by omega) _ _ _ _ _ _ _), A1.out, fun hc => ⟨nm.data.toList, ?_, ?_⟩⟩
   ·exact pe_name_of a 0 0 0 nm none 0 0
   ·have := (A1.out.2 hc).2
    have hl := len_of nm
    omega
 case true =>
  rcases HH.out with ⟨_, hc0, m3, hm3, hx3⟩ | ⟨h1, _⟩
  ·subst hc0
   have X3 := hI hx3
   have HL : Hid (meas 0 m3 < M) := meas_lt A1.out hm3 HM.out
   have e3 := (K3.out.block (w.heap.size + 1) (by omega) (by omega)).trans E2.out
   have r3 := (K3.out.block w.heap.size (by omega) (by omega)).trans R2.out
   have z3 : w.heap.size + 2 ≤ w3.heap.size := by have := K3.out.size; omega
   have K3' : Hid (Kq br w w3) := K2.out.trans K3.out
   clear hx3 HH e2 r2 E2 R2 K2 K3 X2 z2'
   go_wp2_with fail
   refine (HI.out _ HL.out br s 0 m3 w3 X3.out (Nat.le_refl _)).mono ?_
   rintro e w4 ⟨k4, a4, op4, wd4, n4, nm4, sa4, sl4, sc4, rfl, hk4, c4, m4, hx4, ha4, hp4⟩
   have e4 := (hk4.block (w.heap.size + 1) (by omega) (by omega)).trans e3
   have r4 := (hk4.block w.heap.size (by omega) (by omega)).trans r3
   have z4 : w.heap.size + 2 ≤ w4.heap.size := by have := hk4.size; omega
   have K4 : Hid (Kq br w w4) := K3'.out.trans hk4
   have X4 := hI hx4
   have A4 := hI ha4
   have P4 := hI hp4
   have E4 := hI e4
   have R4 := hI r4
   clear hk4 hx4 ha4 hp4 e3 r3 K3' X3 HL
   obtain ⟨p0, p1, p2, p3, p4, p5, p6, pf, pl⟩ := bx e4
   obtain ⟨i55, hi, hz, hsz, hby⟩ := info55'
   have HI5 := hI hi
   have HZ5 := hI hz
   have HS5 := hI hsz
   have HB5 := hI hby
   clear e4 r4 hi hz hsz hby
   go_wp2_with (at_builtin; refine wpList_append_lies _ rfl (.tmp 25) (.tmp 27) 53 rfl (w.heap.size + 2) 55 i55 _ 7 80 Tryz.underlying53 HI5.out HZ5.out HS5.out HB5.out rfl (by decide) (.slice none 0 0) 0 [] rfl (World.ownsRow_nil _ _ _ _) ⟨w4.heap.size + 1, 0, none⟩ 1 1 [.int .i64 k4, .int .i64 a4, .int .i64 op4, .int .i64 wd4, .int .u64 n4, .string nm4, .slice sa4 sl4 sc4] rfl rfl (seven_new _ _ _ _ _ _ _ _ _ _) seven_one (by decide) (by decide) (by decide) (by simp; omega) _ rfl ?_; intro g5 cap5 w5 hown5 hgrow5 hat5 hlt5; have e5 := (grown_box hgrow5 (k := w.heap.size + 1) pl (by simp [Value.ownBlock])).trans E4.out; have E5 := hI e5; have O5 := hI hown5; have G5 := hI hgrow5; have T5 := hI hat5; clear hown5 hgrow5 hat5; obtain ⟨p0, p1, p2, p3, p4, p5, p6, pf, pl5⟩ := bx e5; clear e5)
   generalize hS2 : w5.setCell ⟨w.heap.size + 1, 6, none⟩ (.slice (some ⟨g5, 0, none⟩) 1 cap5) = w6
   obtain ⟨e6, z6, o6, k6, x6⟩ := set_box hS2 E5.out
   generalize hS3 : w6.setCell ⟨w.heap.size + 1, 0, none⟩ (.int .i64 3) = w7
   obtain ⟨e7, z7, o7, k7, x7⟩ := set_box hS3 e6
   have K7 := k7 br w (k6 br w (grown_kq K4.out G5.out (by simp [Value.ownBlock])) (by omega)).out (by omega)
   have X5 : Sx br s w5 c4 m4 := X4.out.to (grown_box G5.out (by omega) (by simp [Value.ownBlock]))
   have X7 := x7 br s c4 m4 (x6 br s c4 m4 X5 (by omega)).out (by omega)
   have r7 := (o7 w.heap.size (by omega)).trans ((o6 w.heap.size (by omega)).trans ((grown_box G5.out (k := w.heap.size) (by omega) (by simp [Value.ownBlock])).trans R4.out))
   have P7 : Hid (c4 = 0 → ∃ t, Els (w.heap.size + 2) w7 (.slice (some ⟨g5, 0, none⟩) 1 cap5) [(k4, [.int .i64 k4, .int .i64 a4, .int .i64 op4, .int .i64 wd4, .int .u64 n4, .string nm4, .slice sa4 sl4 sc4], t)] ∧ t.length ≤ 64 * (m3 - m4)) := by
    intro hc
    obtain ⟨t, hp, hl⟩ := P4.out hc
    refine ⟨t, ?_, hl⟩
    have hE := els_push (L := w.heap.size + 2) (N := w3.heap.size) (Els.nil _ w4) (k4, [.int .i64 k4, .int .i64 a4, .int .i64 op4, .int .i64 wd4, .int .u64 n4, .string nm4, .slice sa4 sl4 sc4], t) hp (by simp [Value.ownBlock]) z3 O5.out G5.out T5.out
    exact hE.to fun k hk _ => by rw [o7 k (by omega), o6 k (by omega)]
   have E7 := hI e7
   have R7 := hI r7
   have z7' : w.heap.size + 2 ≤ w7.heap.size := by have := G5.out.size; simp at this; omega
   have hg7 : Hid (g5 < w7.heap.size) := by show g5 < _; omega
   clear hS2 hS3 k6 x6 o6 k7 x7 o7 e6 z6 z7 X5 G5 O5 T5 E5 p0 p1 p2 p3 p4 p5 p6 pf pl pl5 hlt5 P4 E4 R4 X4 K4 z4 HI5 HZ5 HS5 HB5 e7 r7
   refine (accept_any X7.out _).mono ?_
   rintro e w8 ⟨bo, rfl, hk8, hh⟩
   have HH := hI hh
   have K8 : Hid (Kq br w7 w8) := hk8
   clear hh hk8
   cases bo
   case false =>
    rcases HH.out with ⟨h1, _⟩ | ⟨_, h1⟩
    ·cases h1
    ·subst h1
     clear HH K8
     go_wp2_with fail
     refine (must_any X7.out _).mono ?_
     rintro e w9 ⟨rfl, hk9, c9, m9, hx9, ha9⟩
     have e9 := (hk9.block (w.heap.size + 1) (by omega) (by omega)).trans E7.out
     have r9 := (hk9.block w.heap.size (by omega) (by omega)).trans R7.out
     have K9 : Hid (Kq br w w9) := K7.out.trans hk9
     have K9' : Hid (Kq br w8 w9) := hk9
     have X9 := hI hx9
     have A9 := hI ha9
     obtain ⟨p0, p1, p2, p3, p4, p5, p6, pf, pl⟩ := bx e9
     obtain ⟨q0, q1, q2, q3, q4, q5, q6, qf, ql⟩ := bx r9
     clear e9 r9 hk9 hx9 ha9
     go_wp2_with fail
     refine bodyPost_ret (v := .agg #[.int .i64 3, .int .i64 a, .int .i64 0, .int .i64 0, .int .u64 0, .string nm, .slice (some ⟨g5, 0, none⟩) 1 cap5]) (by simp [results, Tryz.results75, go_sem, *]) rfl ?_
     refine ⟨3, a, 0, 0, 0, nm, _, 1, cap5, rfl, K9.out.set7 (Nat.le_refl _) _ _ _ _ _ _ _, c9, m9, X9.out.to (heap_set7 (by omega) _ _ _ _ _ _ _), (A1.out.trans ⟨Nat.le_of_lt hm3, fun _ => ⟨rfl, hm3⟩⟩).trans (A4.out.trans A9.out), fun hc => ?_⟩
     obtain ⟨hc4, hm9⟩ := A9.out.2 hc
     obtain ⟨t, hE, hl⟩ := P7.out hc4
     have h1 := (A1.out.2 rfl).2
     have h4 := (A4.out.2 hc4).2
     have hE' := (hE.kq K9'.out (by omega)).node 3 a 0 0 0 nm.data.toList (Or.inl ⟨rfl, rfl⟩)
     rw [bs_of, node3] at hE'
     refine ⟨_, pe_set7 hE' _ _ _ _ _ _ _, ?_⟩
     ·have hl' := len_of nm
      simp only [lnA, lnC, lnN]
      omega
   case true =>
    rcases HH.out with ⟨_, hc4, m8, hm8, hx8⟩ | ⟨h1, _⟩
    ·subst hc4
     obtain ⟨t, hE7, hl7⟩ := P7.out rfl
     have hg := hE7.at (by simp)
     have hgL := hg.1
     have X8 := hI hx8
     have hm4 := A4.out.1
     have HL : Hid (meas 0 m8 < M) := meas_lt A1.out (by omega) HM.out
     have e8 := (K8.out.block (w.heap.size + 1) (by omega) (by omega)).trans E7.out
     have r8 := (K8.out.block w.heap.size (by omega) (by omega)).trans R7.out
     have hE8 := hI (hE7.kq K8.out (by omega))
     have z8 : w.heap.size + 2 ≤ w8.heap.size := by have := K8.out.size; omega
     have hg8 : g5 < w8.heap.size := by have := K8.out.size; omega
     have K8' : Hid (Kq br w w8) := K7.out.trans K8.out
     clear hx8 HH E7 R7 K7 K8 X7 z7' hg7 P7 hE7 hg
     go_wp2_with fail
     refine (HI.out _ HL.out br s 0 m8 w8 X8.out (Nat.le_refl _)).mono ?_
     rintro e w10 ⟨k10, a10, op10, wd10, n10, nm10, sa10, sl10, sc10, rfl, hk10, c10, m10, hx10, ha10, hp10⟩
     have e10 := (hk10.block (w.heap.size + 1) (by omega) (by omega)).trans e8
     have r10 := (hk10.block w.heap.size (by omega) (by omega)).trans r8
     have z10 : w.heap.size + 2 ≤ w10.heap.size := by have := hk10.size; omega
     have K10 : Hid (Kq br w w10) := K8'.out.trans hk10
     have hE10 := hI (hE8.out.kq hk10 (by omega))
     have X10 := hI hx10
     have A10 := hI ha10
     have P10 := hI hp10
     have E10 := hI e10
     have R10 := hI r10
     clear hk10 hx10 ha10 hp10 e8 r8 K8' X8 HI HL hE8
     obtain ⟨p0, p1, p2, p3, p4, p5, p6, pf, pl⟩ := bx e10
     obtain ⟨i55, hi, hz, hsz, hby⟩ := info55'
     have HI5 := hI hi
     have HZ5 := hI hz
     have HS5 := hI hsz
     have HB5 := hI hby
     clear e10 r10 hi hz hsz hby
     go_wp2_with (at_builtin; refine wpList_append_lies _ rfl (.tmp 37) (.tmp 39) 53 rfl (w.heap.size + 2) 55 i55 _ 7 80 Tryz.underlying53 HI5.out HZ5.out HS5.out HB5.out rfl (by decide) (.slice (some ⟨g5, 0, none⟩) 1 cap5) 1 _ rfl (els_alloc2 hE10.out _ _).1 ⟨w10.heap.size + 1, 0, none⟩ 1 1 [.int .i64 k10, .int .i64 a10, .int .i64 op10, .int .i64 wd10, .int .u64 n10, .string nm10, .slice sa10 sl10 sc10] rfl rfl (seven_new _ _ _ _ _ _ _ _ _ _) seven_one (by decide) (by decide) (by decide) (by simp; omega) _ rfl ?_; intro g11 cap11 w11 hown11 hgrow11 hat11 hlt11; have e11 := (grown_box hgrow11 (k := w.heap.size + 1) pl (by simp [Value.ownBlock]; omega)).trans E10.out; have E11 := hI e11; have O11 := hI hown11; have G11 := hI hgrow11; have T11 := hI hat11; clear hown11 hgrow11 hat11; obtain ⟨p0, p1, p2, p3, p4, p5, p6, pf, pl11⟩ := bx e11; clear e11)
     generalize hS2 : w11.setCell ⟨w.heap.size + 1, 6, none⟩ (.slice (some ⟨g11, 0, none⟩) 2 cap11) = w12
     obtain ⟨e12, z12, o12, k12, x12⟩ := set_box hS2 E11.out
     generalize hS3 : w12.setCell ⟨w.heap.size + 1, 0, none⟩ (.int .i64 4) = w13
     obtain ⟨e13, z13, o13, k13, x13⟩ := set_box hS3 e12
     have K13 := k13 br w (k12 br w (grown_kq K10.out G11.out (by simp [Value.ownBlock]; omega)) (by omega)).out (by omega)
     have X11 : Sx br s w11 c10 m10 := X10.out.to (grown_box G11.out (by omega) (by simp [Value.ownBlock]; omega))
     have X13 := x13 br s c10 m10 (x12 br s c10 m10 X11 (by omega)).out (by omega)
     have r13 := (o13 w.heap.size (by omega)).trans ((o12 w.heap.size (by omega)).trans ((grown_box G11.out (k := w.heap.size) (by omega) (by simp [Value.ownBlock]; omega)).trans R10.out))
     have P13 : Hid (c10 = 0 → ∃ t2, Els (w.heap.size + 2) w13 (.slice (some ⟨g11, 0, none⟩) 2 cap11) [(k4, [.int .i64 k4, .int .i64 a4, .int .i64 op4, .int .i64 wd4, .int .u64 n4, .string nm4, .slice sa4 sl4 sc4], t), (k10, [.int .i64 k10, .int .i64 a10, .int .i64 op10, .int .i64 wd10, .int .u64 n10, .string nm10, .slice sa10 sl10 sc10], t2)] ∧ t2.length ≤ 64 * (m8 - m10)) := by
      intro hc
      obtain ⟨t2, hp, hl⟩ := P10.out hc
      refine ⟨t2, ?_, hl⟩
      have hE := els_push (L := w.heap.size + 2) (N := w8.heap.size) hE10.out (k10, [.int .i64 k10, .int .i64 a10, .int .i64 op10, .int .i64 wd10, .int .u64 n10, .string nm10, .slice sa10 sl10 sc10], t2) hp (by simp [Value.ownBlock]; omega) z8 O11.out G11.out T11.out
      exact hE.to fun k hk _ => by rw [o13 k (by omega), o12 k (by omega)]
     have E13 := hI e13
     have R13 := hI r13
     have z13' : w.heap.size + 2 ≤ w13.heap.size := by have := G11.out.size; simp at this; omega
     clear hS2 hS3 k12 x12 o12 k13 x13 o13 e12 z12 z13 X11 G11 O11 T11 E11 p0 p1 p2 p3 p4 p5 p6 pf pl pl11 hlt11 P10 E10 R10 X10 K10 z10 HI5 HZ5 HS5 HB5 e13 r13 hE10
     refine (must_any X13.out _).mono ?_
     rintro e w9 ⟨rfl, hk9, c9, m9, hx9, ha9⟩
     have e9 := (hk9.block (w.heap.size + 1) (by omega) (by omega)).trans E13.out
     have r9 := (hk9.block w.heap.size (by omega) (by omega)).trans R13.out
     have K9 : Hid (Kq br w w9) := K13.out.trans hk9
     have K9' : Hid (Kq br w13 w9) := hk9
     have X9 := hI hx9
     have A9 := hI ha9
     obtain ⟨p0, p1, p2, p3, p4, p5, p6, pf, pl⟩ := bx e9
     obtain ⟨q0, q1, q2, q3, q4, q5, q6, qf, ql⟩ := bx r9
     clear e9 r9 hk9 hx9 ha9
     go_wp2_with fail
     refine bodyPost_ret (v := .agg #[.int .i64 4, .int .i64 a, .int .i64 0, .int .i64 0, .int .u64 0, .string nm, .slice (some ⟨g11, 0, none⟩) 2 cap11]) (by simp [results, Tryz.results75, go_sem, *]) rfl ?_
     refine ⟨4, a, 0, 0, 0, nm, _, 2, cap11, rfl, K9.out.set7 (Nat.le_refl _) _ _ _ _ _ _ _, c9, m9, X9.out.to (heap_set7 (by omega) _ _ _ _ _ _ _), (A1.out.trans ⟨Nat.le_of_lt hm3, fun _ => ⟨rfl, hm3⟩⟩).trans ((A4.out.trans ⟨Nat.le_of_lt hm8, fun _ => ⟨rfl, hm8⟩⟩).trans (A10.out.trans A9.out)), fun hc => ?_⟩
     obtain ⟨hc10, hm9⟩ := A9.out.2 hc
     obtain ⟨t2, hE, hl⟩ := P13.out hc10
     have h1 := (A1.out.2 rfl).2
     have h4 := (A4.out.2 rfl).2
     have h10 := (A10.out.2 hc10).2
     have hE' := (hE.kq K9'.out (by omega)).node 4 a 0 0 0 nm.data.toList (Or.inr (Or.inl ⟨rfl, rfl⟩))
     rw [bs_of, node4] at hE'
     refine ⟨_, pe_set7 hE' _ _ _ _ _ _ _, ?_⟩
     have hl' := len_of nm
     simp only [lnA, lnC, lnN]
     omega
    ·cases h1
  ·cases h1
def CPlace (M : Nat) : Prop := ∀ (br : Nat) (s : ByteArray) (c : Int) (m : Nat) (w : World), Sx br s w c m → meas c m ≤ M → Calls Tryz.prog 75 #[.pointer (some ⟨br, 0, none⟩)] w (ExPost br s c m w)
def CBraces (M : Nat) : Prop := ∀ (p : Bool) (br : Nat) (s : ByteArray) (m : Nat) (w : World), Sx br s w 0 m → m + 1 ≤ M → Calls Tryz.prog 86 #[.pointer (some ⟨br, 0, none⟩), .bool p] w (ExPost br s 0 m w)
def CPrim (M : Nat) : Prop := ∀ (br : Nat) (s : ByteArray) (c : Int) (m : Nat) (w : World), Sx br s w c m → meas c m ≤ M → Calls Tryz.prog 74 #[.pointer (some ⟨br, 0, none⟩)] w (ExPost br s c m w)
def CUnary (M : Nat) : Prop := ∀ (br : Nat) (s : ByteArray) (c : Int) (m : Nat) (w : World), Sx br s w c m → meas c m ≤ M → Calls Tryz.prog 53 #[.pointer (some ⟨br, 0, none⟩)] w (ExPost br s c m w)
def CBin (M : Nat) (l : Nat) : Prop := ∀ (br : Nat) (s : ByteArray) (c : Int) (m : Nat) (w : World), Sx br s w c m → meas c m ≤ M → Calls Tryz.prog 39 #[.pointer (some ⟨br, 0, none⟩), .int .i64 l] w (ExPost br s c m w)
def set7 (w : World) (L : Nat) (u0 u1 u2 u3 u4 u5 u6 : Value) : World :=
 ((((((w.setCell ⟨L, 0, none⟩ u0).setCell ⟨L, 1, none⟩ u1).setCell ⟨L, 2, none⟩ u2).setCell ⟨L, 3, none⟩ u3).setCell ⟨L, 4, none⟩ u4).setCell ⟨L, 5, none⟩ u5).setCell ⟨L, 6, none⟩ u6
theorem ex_close {br : Nat} {s : ByteArray} {c : Int} {m : Nat} {w w2 : World} {k a op wd n : Int} {nm : ByteArray} {sa : Option Addr} {sl sc : Nat} {c' : Int} {m' : Nat} (hbr : br < w.heap.size) (K : Kq br w w2) (X : Sx br s w2 c' m') (A : Adv c m c' m')
  (hP : c' = 0 → ∃ t, PE (fun b => w.heap.size + 1 ≤ b) w2 k [.int .i64 k, .int .i64 a, .int .i64 op, .int .i64 wd, .int .u64 n, .string nm, .slice sa sl sc] t ∧ t.length ≤ 64 * (m - m')) :
  ExPost br s c m w (.returned (.agg #[.int .i64 k, .int .i64 a, .int .i64 op, .int .i64 wd, .int .u64 n, .string nm, .slice sa sl sc])) (set7 w2 w.heap.size (.int .i64 k) (.int .i64 a) (.int .i64 op) (.int .i64 wd) (.int .u64 n) (.string nm) (.slice sa sl sc)) := by
 refine ⟨k, a, op, wd, n, nm, sa, sl, sc, rfl, K.set7 (Nat.le_refl _) _ _ _ _ _ _ _, c', m', X.to (heap_set7 (by omega) _ _ _ _ _ _ _), A, fun hc => ?_⟩
 obtain ⟨t, hp, hl⟩ := hP hc
 refine ⟨t, hp.mono ?_ ?_, hl⟩
 ·intro b hb
  have h2 : w.heap.size + 1 ≤ b := hb
  show w.heap.size ≤ b
  omega
 ·intro b o u hb hu
  have h2 : w.heap.size + 1 ≤ b := hb
  have hne : b ≠ w.heap.size := by omega
  unfold set7
  rw [World.cell?_of_block (a := ⟨b, o, none⟩) (heap_set7 hne _ _ _ _ _ _ _)]; exact hu
theorem pe_le {L L' : Nat} {w : World} {k : Int} {cs : List Value} {t : List UInt8} (h : PE (fun b => L ≤ b) w k cs t) (hL : L' ≤ L) : PE (fun b => L' ≤ b) w k cs t :=
 h.mono (fun b hb => by have h2 : L ≤ b := hb; show L' ≤ b; omega) (fun _ _ _ _ hu => hu)
theorem decTxt_len' (n : Nat) (h : n < 10000000000) : (decTxt n).length ≤ 10 := decTxt_len 9 n h
theorem num_len (wd n : Nat) (h1 : wd < 10000000000) (h2 : n < 10000000000) : (numTxt wd n).length ≤ 64 := by
 have a := decTxt_len' wd h1
 have b := decTxt_len' n h2
 unfold numTxt
 split
 ·omega
 ·simp only [lnA, lnC, lnN]; omega
theorem one_box {w W : World} {o1 : Obj} (hW : w.alloc o1 = W) :
  W.heap.size = w.heap.size + 1 ∧ W.heap[w.heap.size]? = some o1 ∧ (∀ k, k < w.heap.size → W.heap[k]? = w.heap[k]?) ∧ (∀ br, Hid (Kq br w W)) := by
 subst hW
 exact ⟨by simp, heap_alloc_self w _, fun k hk => Below.heap_alloc _ _ _ hk, fun br => (Kq.refl _ _).alloc _⟩
theorem bx5 {W : World} {b : Nat} {T : TypeId} {v0 v1 v2 v3 v4 : Value} (h : W.heap[b]? = some (.cells #[v0, v1, v2, v3, v4] T)) :
  W.cell? ⟨b, 0, none⟩ = some v0 ∧ W.cell? ⟨b, 1, none⟩ = some v1 ∧ W.cell? ⟨b, 2, none⟩ = some v2 ∧ W.cell? ⟨b, 3, none⟩ = some v3 ∧ W.cell? ⟨b, 4, none⟩ = some v4 := by
 refine ⟨?_, ?_, ?_, ?_, ?_⟩ <;> simp [World.cell?, h]
theorem prim_any (M : Nat) (IH : ∀ M', M' < M → CExpr M') (CP : CPlace M) (CB : CBraces M) : CPrim M := by
 intro br s c m w h hM
 have HX := hI h
 have HM := hI hM
 have HI := hI IH
 have HP := hI CP
 have HB := hI CB
 clear hM IH CP CB
 obtain ⟨k, wd, n, T, hst⟩ := h
 have HST := hI hst
 obtain ⟨a, q, fa, hr, j1, j2, j3, j4, g1, g2, g3, g4, j5⟩ := hst
 have G : Hid (0 ≤ wd ∧ wd ≤ 32 ∧ 0 ≤ n ∧ n < 4294967296) := ⟨g1, g2, g3, g4⟩
 have hlt := hr.lt
 have HR := hI hr
 obtain ⟨c0, c1, c2, c3, c4, c5, c6, c7, c8, fz⟩ := hr.all
 clear hr g1 g2 g3 g4 j1 j2 j3 j4 j5
 go_enter Tryz.func74, Tryz.ntmps74
 go_wp2_with fail
 generalize hW : (w.alloc (.cells _ 55)).alloc (.cells _ 33) = W
 obtain ⟨hz, r0, t0, KW, SW⟩ := two_boxes hW
 have KW := KW br
 have SW' : Hid (St br s W c m k wd n T) := by rw [← hW]; exact (HST.out.alloc _).alloc _
 have RW : Rd br s W k a wd T n q c fa := by
  have := HR.out
  rw [← hW]
  exact (Below.heap_alloc _ _ _ (by simp; omega)).trans ((Below.heap_alloc _ _ _ hlt).trans this)
 have SW := SW br s c m HX.out
 clear hW c0 c1 c2 c3 c4 c5 c6 c7 c8 fz HR
 obtain ⟨c0, c1, c2, c3, c4, c5, c6, c7, c8, fz⟩ := RW.all
 clear RW
 refine (is_st SW'.out _).mono ?_
 rintro e W ⟨b, rfl, rfl, hb⟩
 have HBk := hI hb
 clear hb
 by_cases hc : c = 0
 ·subst hc
  by_cases hk1 : k = 1
  ·subst hk1
   clear c0 c1 c2 c3 c4 c5 c6 c8 fz HBk
   obtain ⟨y0, y1, y2, y3, y4⟩ := bx5 t0
   go_wp2_with fail
   refine (HP.out br s 0 m W SW.out HM.out).mono ?_
   rintro e w2 ⟨k2, a2, op2, wd2, n2, nm2, sa2, sl2, sc2, rfl, hk2, c', m', hx2, ha2, hp2⟩
   have r2 := (hk2.block w.heap.size (by omega) (by omega)).trans r0
   have K2 : Hid (Kq br w w2) := KW.out.trans hk2
   have X2 := hI hx2
   have A2 := hI ha2
   have P2 := hI hp2
   clear hk2 hx2 ha2 hp2
   obtain ⟨q0, q1, q2, q3, q4, q5, q6, qf, ql⟩ := bx r2
   clear r2 r0 t0
   go_wp2_with fail
   exact bodyPost_ret (v := .agg #[.int .i64 k2, .int .i64 a2, .int .i64 op2, .int .i64 wd2, .int .u64 n2, .string nm2, .slice sa2 sl2 sc2]) (by simp [results, Tryz.results74, go_sem, *]) rfl (ex_close hlt K2.out X2.out A2.out fun hc => by
    obtain ⟨t, hp, hl⟩ := P2.out hc
    exact ⟨t, pe_le hp (by omega), hl⟩)
  ·by_cases hk2 : k = 2
   ·subst hk2
    obtain ⟨y0, y1, y2, y3, y4⟩ := bx5 t0
    go_wp2_with fail
    refine (step_st SW'.out (by decide) (by decide)).mono ?_
    rintro e w2 ⟨rfl, hk2, m2, hm2, hx2⟩
    have r2 := (hk2.block w.heap.size (by omega) (by omega)).trans r0
    have t2 := (hk2.block (w.heap.size + 1) (by omega) (by omega)).trans t0
    have K2 : Hid (Kq br w w2) := KW.out.trans hk2
    have X2 := hI hx2
    clear hk2 hx2 c0 c1 c2 c3 c4 c5 c6 c7 c8 fz y0 y1 y2 y3 y4
    obtain ⟨q0, q1, q2, q3, q4, q5, q6, qf, ql⟩ := bx r2
    obtain ⟨y0, y1, y2, y3, y4⟩ := bx5 t2
    clear r2 r0 t0 t2
    go_wp2_with fail
    obtain ⟨g1, g2, g3, g4⟩ := G.out
    exact bodyPost_ret (v := .agg #[.int .i64 1, .int .i64 a, .int .i64 0, .int .i64 wd, .int .u64 n, .string ⟨#[]⟩, .slice none 0 0]) (by simp [results, Tryz.results74, go_sem, *]) rfl (ex_close hlt K2.out X2.out ⟨Nat.le_of_lt hm2, fun _ => ⟨rfl, hm2⟩⟩ fun _ => by
     refine ⟨_, PE.num a 0 wd n ⟨#[]⟩ none 0 0 g1 g2 g3 g4, ?_⟩
     have := num_len wd.toNat n.toNat (by omega) (by omega)
     omega)
   ·have g1 : (k == 1) = false := beq_eq_false_iff_ne.2 hk1
    have g2 : (k == 2) = false := beq_eq_false_iff_ne.2 hk2
    clear hk1 hk2
    obtain ⟨y0, y1, y2, y3, y4⟩ := bx5 t0
    cases b
    case true =>
     clear c0 c1 c2 c3 c4 c5 c6 c8 fz HBk
     go_wp2_with fail
     refine (HB.out false br s m W SW.out (by have := HM.out; simp only [meas, if_pos] at this; exact this)).mono ?_
     rintro e w2 ⟨k2, a2, op2, wd2, n2, nm2, sa2, sl2, sc2, rfl, hk2, c', m', hx2, ha2, hp2⟩
     have r2 := (hk2.block w.heap.size (by omega) (by omega)).trans r0
     have K2 : Hid (Kq br w w2) := KW.out.trans hk2
     have X2 := hI hx2
     have A2 := hI ha2
     have P2 := hI hp2
     clear hk2 hx2 ha2 hp2
     obtain ⟨q0, q1, q2, q3, q4, q5, q6, qf, ql⟩ := bx r2
     clear r2 r0 t0
     go_wp2_with fail
     exact bodyPost_ret (v := .agg #[.int .i64 k2, .int .i64 a2, .int .i64 op2, .int .i64 wd2, .int .u64 n2, .string nm2, .slice sa2 sl2 sc2]) (by simp [results, Tryz.results74, go_sem, *]) rfl (ex_close hlt K2.out X2.out A2.out fun hc => by
      obtain ⟨t, hp, hl⟩ := P2.out hc
      exact ⟨t, pe_le hp (by omega), hl⟩)
    case false =>
     clear c0 c1 c2 c3 c4 c5 c6 c8 fz HBk
     go_wp2_with fail
     refine (accept_any SW.out _).mono ?_
     rintro e w3 ⟨bo, rfl, hk3, hh⟩
     have HH := hI hh
     have K3 : Hid (Kq br W w3) := hk3
     clear hh hk3
     cases bo
     case false =>
      rcases HH.out with ⟨h1, _⟩ | ⟨_, h1⟩
      ·cases h1
      ·subst h1
       clear HH K3
       go_wp2_with fail
       refine (fail_st SW.out).mono ?_
       rintro e w2 ⟨rfl, hk2, c', hc', hx2⟩
       have r2 := (hk2.block w.heap.size (by omega) (by omega)).trans r0
       have K2 : Hid (Kq br w w2) := KW.out.trans hk2
       have X2 := hI hx2
       have HC := hI hc'
       clear hk2 hx2 hc'
       obtain ⟨q0, q1, q2, q3, q4, q5, q6, qf, ql⟩ := bx r2
       clear r2 r0 t0
       go_wp2_with fail
       exact bodyPost_ret (v := .agg #[.int .i64 0, .int .i64 0, .int .i64 0, .int .i64 0, .int .u64 0, .string ⟨#[]⟩, .slice none 0 0]) (by simp [results, Tryz.results74, go_sem, *]) rfl (ex_close hlt K2.out X2.out ⟨Nat.le_refl _, fun e => absurd e HC.out⟩ fun e => absurd e HC.out)
     case true =>
      rcases HH.out with ⟨_, hc0, m3, hm3, hx3⟩ | ⟨h1, _⟩
      ·have X3 := hI hx3
       have HL : Hid (meas 0 m3 < M) := by
        have := HM.out
        simp only [meas, if_pos] at *
        show _ < _
        omega
       have r3 := (K3.out.block w.heap.size (by omega) (by omega)).trans r0
       have z3 : w.heap.size + 2 ≤ w3.heap.size := by have := K3.out.size; omega
       have K3' : Hid (Kq br w w3) := KW.out.trans K3.out
       clear hx3 HH r0 t0 K3 KW SW SW' y0 y1 y2 y3 y4
       go_wp2_with fail
       refine (HI.out _ HL.out br s 0 m3 w3 X3.out (Nat.le_refl _)).mono ?_
       rintro e w4 ⟨k4, a4, op4, wd4, n4, nm4, sa4, sl4, sc4, rfl, hk4, c4, m4, hx4, ha4, hp4⟩
       have r4 := (hk4.block w.heap.size (by omega) (by omega)).trans r3
       have z4 : w.heap.size + 2 ≤ w4.heap.size := by have := hk4.size; omega
       have K4 : Hid (Kq br w w4) := K3'.out.trans hk4
       have X4 := hI hx4
       have A4 := hI ha4
       have P4 := hI hp4
       clear hk4 hx4 ha4 hp4 r3 K3' X3 HI HL
       go_wp2_with fail
       generalize hW5 : w4.alloc (.cells _ 55) = w5
       obtain ⟨z5, b5, o5, k45⟩ := one_box hW5
       have K45 := k45 br
       clear hW5 k45
       have X5 : Hid (Sx br s w5 c4 m4) := X4.out.to (o5 br (by omega))
       refine (must_any X5.out _).mono ?_
       rintro e w6 ⟨rfl, hk6, c6, m6, hx6, ha6⟩
       have r6 := (hk6.block w.heap.size (by omega) (by omega)).trans ((o5 _ (by omega)).trans r4)
       have b6 := (hk6.block w4.heap.size (by omega) (by omega)).trans b5
       have K6 : Hid (Kq br w w6) := (K4.out.trans K45.out).trans hk6
       have K46 : Hid (Kq br w4 w6) := K45.out.trans hk6
       have X6 := hI hx6
       have A6 := hI ha6
       clear hk6 hx6 ha6 b5 o5 r4 K45
       obtain ⟨q0, q1, q2, q3, q4, q5, q6, qf, ql⟩ := bx r6
       obtain ⟨p0, p1, p2, p3, p4, p5, p6, pf, pl⟩ := bx b6
       clear r6 b6
       go_wp2_with fail
       exact bodyPost_ret (v := .agg #[.int .i64 k4, .int .i64 a4, .int .i64 op4, .int .i64 wd4, .int .u64 n4, .string nm4, .slice sa4 sl4 sc4]) (by simp [results, Tryz.results74, go_sem, *]) rfl (ex_close hlt K6.out X6.out (Adv.trans ⟨Nat.le_of_lt hm3, fun _ => ⟨rfl, hm3⟩⟩ (A4.out.trans A6.out)) fun hc => by
        obtain ⟨hc4, hm6⟩ := A6.out.2 hc
        obtain ⟨t, hp, hl⟩ := P4.out hc4
        have h4 := (A4.out.2 hc4).2
        exact ⟨t, pe_le (hp.kq K46.out (by omega)) (by omega), by omega⟩)
      ·cases h1
 ·have g1 : (c == 0) = false := beq_eq_false_iff_ne.2 hc
  have HC := hI hc
  clear hc
  obtain ⟨y0, y1, y2, y3, y4⟩ := bx5 t0
  cases b
  case true => exact absurd (HBk.out rfl).1 HC.out
  case false =>
   clear c0 c1 c2 c3 c4 c5 c6 c8 fz HBk
   go_wp2_with fail
   refine (accept_any SW.out _).mono ?_
   rintro e w3 ⟨bo, rfl, hk3, hh⟩
   have HH := hI hh
   have K3 : Hid (Kq br W w3) := hk3
   clear hh hk3
   cases bo
   case false =>
    rcases HH.out with ⟨h1, _⟩ | ⟨_, h1⟩
    ·cases h1
    ·subst h1
     clear HH K3
     go_wp2_with fail
     refine (fail_st SW.out).mono ?_
     rintro e w2 ⟨rfl, hk2, c', hc', hx2⟩
     have r2 := (hk2.block w.heap.size (by omega) (by omega)).trans r0
     have K2 : Hid (Kq br w w2) := KW.out.trans hk2
     have X2 := hI hx2
     have HC := hI hc'
     clear hk2 hx2 hc'
     obtain ⟨q0, q1, q2, q3, q4, q5, q6, qf, ql⟩ := bx r2
     clear r2 r0 t0
     go_wp2_with fail
     exact bodyPost_ret (v := .agg #[.int .i64 0, .int .i64 0, .int .i64 0, .int .i64 0, .int .u64 0, .string ⟨#[]⟩, .slice none 0 0]) (by simp [results, Tryz.results74, go_sem, *]) rfl (ex_close hlt K2.out X2.out ⟨Nat.le_refl _, fun e => absurd e HC.out⟩ fun e => absurd e HC.out)
   case true =>
    rcases HH.out with ⟨_, hc0, _⟩ | ⟨h1, _⟩
    ·exact absurd hc0 HC.out
    ·cases h1
theorem Sx.le {br : Nat} {s : ByteArray} {w : World} {c : Int} {m : Nat} (h : Sx br s w c m) : m ≤ 60001 := by
 obtain ⟨k, wd, n, T, a, q, fa, _, hs, _, _, _, _, _, _, _, _, _, hm⟩ := h
 subst hm
 split <;> omega
theorem meas_zero_lt {c1 : Int} {m m1 M : Nat} (h : Adv 0 m c1 m1) (hM : m + 1 ≤ M) : meas c1 m1 < M := by
 unfold meas
 split
 ·rename_i hc; have := (h.2 hc).2; omega
 ·omega
def Lst (L m0 : Nat) (wr : World) (c : Int) (m : Nat) (v : Value) : Prop :=
 c = 0 → ∃ es : List Ele, Els L wr v es ∧ 1 ≤ es.length ∧ es.length + m ≤ m0 ∧ (commaTxt (es.map (fun x : Ele => x.2.2))).length ≤ 64 * (m0 - m)
theorem app_done {br : Nat} {s : ByteArray} {w w4 w5 w6 : World} {o1 o2 : Obj} {row : Option Nat} {cs : Array Value} {T : TypeId} {v : Value} {R : Option Obj} {c4 : Int} {m4 : Nat} (z4 : w.heap.size + 2 ≤ w4.heap.size) (hbr : br < w.heap.size)
  (K4 : Kq br w w4) (X4 : Sx br s w4 c4 m4) (E4 : w4.heap[w.heap.size + 1]? = some (.cells cs T)) (R4 : w4.heap[w.heap.size]? = R)
  (G5 : ((w4.alloc o1).alloc o2).grownBy w5 row) (hrow : ∀ k, row = some k → w.heap.size + 2 ≤ k) (hS : w5.setCell ⟨w.heap.size + 1, 6, none⟩ v = w6) :
  Hid (Kq br w w6) ∧ Hid (Sx br s w6 c4 m4) ∧ w6.heap[w.heap.size + 1]? = some (.cells (cs.setIfInBounds 6 v) T) ∧ w6.heap[w.heap.size]? = R ∧ Hid (∀ k, w.heap.size + 2 ≤ k → w6.heap[k]? = w5.heap[k]?) ∧ w.heap.size + 2 ≤ w6.heap.size ∧ Hid (w6.heap.size = w5.heap.size) := by
 have hb := fun (k : Nat) (hk : k < w.heap.size + 2) => grown_box G5 (k := k) (by omega) (fun e => by have := hrow k e.symm; omega)
 have E5 := (hb (w.heap.size + 1) (by omega)).trans E4
 obtain ⟨e6, z6, o6, k6, x6⟩ := set_box hS E5
 have hz := G5.size
 simp at hz
 refine ⟨k6 br w (grown_kq K4 G5 (fun k e => by have := hrow k e; omega)) (by omega), x6 br s c4 m4 (X4.to (hb br (by omega))) (by omega), e6, (o6 _ (by omega)).trans ((hb _ (by omega)).trans R4), fun k hk => o6 k (by omega), by omega, z6⟩
theorem lst_first {L N m0 : Nat} {w4 w5 w6 : World} {o1 o2 : Obj} {c4 : Int} {m4 : Nat} {k : Int} {cs : List Value} (hP : c4 = 0 → ∃ t, PE (fun b => N ≤ b) w4 k cs t ∧ t.length ≤ 64 * (m0 - m4)) (hm : c4 = 0 → m4 < m0) (hLN : L ≤ N) {g cap : Nat}
  (hown : w5.ownsRow L 55 7 (.slice (some ⟨g, 0, none⟩) (0 + 1) cap) (0 + 1) ([] ++ cs)) (hgrow : ((w4.alloc o1).alloc o2).grownBy w5 (Value.ownBlock (.slice none 0 0))) (hat : Value.ownBlock (.slice none 0 0) = some g ∨ g = ((w4.alloc o1).alloc o2).heap.size)
  (o6 : ∀ k, L ≤ k → w6.heap[k]? = w5.heap[k]?) : Lst L m0 w6 c4 m4 (.slice (some ⟨g, 0, none⟩) 1 cap) := by
 intro hc
 obtain ⟨t, hp, hl⟩ := hP hc
 have hE := els_push (L := L) (N := N) (Els.nil _ w4) (k, cs, t) hp (by simp [Value.ownBlock]) hLN hown hgrow hat
 refine ⟨[(k, cs, t)], hE.to fun k hk _ => o6 k hk, by simp, ?_, hl⟩
 have := hm hc
 show 1 + m4 ≤ m0
 omega
theorem lst_next {L N m0 : Nat} {w4 w5 w6 : World} {o1 o2 : Obj} {c4 : Int} {m m3 m4 : Nat} {k : Int} {cs : List Value} {v : Value} {es : List Ele} (hE : Els L w4 v es) (h1 : 1 ≤ es.length) (hn : es.length + m ≤ m0) (hl0 : (commaTxt (es.map (fun x : Ele => x.2.2))).length ≤ 64 * (m0 - m))
  (hm3 : m3 < m) (hP : c4 = 0 → ∃ t, PE (fun b => N ≤ b) w4 k cs t ∧ t.length ≤ 64 * (m3 - m4)) (hm : c4 = 0 → m4 < m3) (hLN : L ≤ N) (hN : ∀ g, v.ownBlock = some g → g < N) {g cap : Nat}
  (hown : w5.ownsRow L 55 7 (.slice (some ⟨g, 0, none⟩) (es.length + 1) cap) (es.length + 1) (es.flatMap (·.2.1) ++ cs)) (hgrow : ((w4.alloc o1).alloc o2).grownBy w5 v.ownBlock) (hat : v.ownBlock = some g ∨ g = ((w4.alloc o1).alloc o2).heap.size)
  (o6 : ∀ k, L ≤ k → w6.heap[k]? = w5.heap[k]?) : Lst L m0 w6 c4 m4 (.slice (some ⟨g, 0, none⟩) (es.length + 1) cap) := by
 intro hc
 obtain ⟨t, hp, hl⟩ := hP hc
 have hE' := els_push (L := L) (N := N) hE (k, cs, t) hp hN hLN hown hgrow hat
 have := hm hc
 refine ⟨es ++ [(k, cs, t)], hE'.to fun k hk _ => o6 k hk, by simp, ?_, ?_⟩
 ·rw [lnA]; show es.length + 1 + m4 ≤ m0; omega
 ·rw [List.map_append, List.map_cons, List.map_nil, commaTxt_snoc _ _ (by intro e; have := congrArg List.length e; simp at this; subst this; simp at h1)]
  simp only [lnA, lnC, lnN]
  omega
end Go.Proofs.YtimmmlnememjiaaGreatDoor
