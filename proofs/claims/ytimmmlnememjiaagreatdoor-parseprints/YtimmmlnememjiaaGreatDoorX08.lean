import Derived.Test.YtimmmlnememjiaaGreatDoorX
import Derived.Test.YtimmmlnememjiaaGreatDoorX07
set_option maxRecDepth 100000
set_option maxHeartbeats 16000000
namespace Go.Proofs.YtimmmlnememjiaaGreatDoor
open Go.RowKit
theorem node_build {S : Nat → Prop} {W : World} {es : List Ele} {arr : Array Value} (hes : ∀ x ∈ es, PE S W x.1 x.2.1 x.2.2) (harr : arr.toList = es.flatMap (·.2.1)) (hSg : S W.heap.size) (k a op wd n : Int) (nm : List UInt8) (hk : Shape k op es.length) :
  PE S (W.alloc (.cells arr 55)) k [.int .i64 k, .int .i64 a, .int .i64 op, .int .i64 wd, .int .u64 n, .string (bs nm), .slice (some ⟨W.heap.size, 0, none⟩) es.length es.length] (nodeTxt k op nm es) := by
 refine PE.node k a op wd n nm W.heap.size es.length es hk hSg (Nat.le_refl _) (fun i x hx => ?_) (fun i x hx j u hu => ?_)
 ·exact (hes x (List.mem_of_getElem? hx)).mono (fun _ h => h) (fun b o u _ hu => by rw [World.cell?_of_block (a := ⟨b, o, none⟩) (Below.heap_alloc _ _ _ (cell_lt hu))]; exact hu)
 ·have h7 : ∀ y ∈ es, y.2.1.length = 7 := fun y hy => (hes y hy).len
  have hj : j < 7 := by
   have := (List.getElem?_eq_some_iff.1 hu).1
   rw [h7 x (List.mem_of_getElem? hx)] at this; exact this
  have hf := flat_get (fun y : Ele => y.2.1) es h7 i j hj
  rw [hx] at hf
  simp only [Option.bind_some] at hf
  rw [hu, ← harr] at hf
  rw [World.cell?_alloc_new]
  simpa using hf
theorem node6 (op : Int) (nm : List UInt8) (x y : Ele) (h1 : 7 ≤ op) (h2 : op ≤ 22) : (nodeTxt 6 op nm [x, y]).length ≤ x.2.2.length + y.2.2.length + 16 := by
 have h : nodeTxt 6 op nm [x, y] = inTxt x.1 x.2.2 ++ [32] ++ signTxt op ++ [32] ++ inTxt y.1 y.2.2 := rfl
 rw [h]
 have a := inTxt_len' x.1 x.2.2
 have c := inTxt_len' y.1 y.2.2
 have b := sign_len op (by omega) (by omega)
 simp only [lnA, lnC, lnN]
 omega
theorem set7_size (w : World) (L : Nat) (u0 u1 u2 u3 u4 u5 u6 : Value) : (set7 w L u0 u1 u2 u3 u4 u5 u6).heap.size = w.heap.size := by
 unfold set7; simp [World.setCell]
theorem set7_two {w : World} {b : Nat} {o1 o2 : Obj} {v0 v1 v2 v3 v4 v5 v6 : Value} {T : TypeId} (hb : b < w.heap.size) (h : w.heap[b]? = some (.cells #[v0, v1, v2, v3, v4, v5, v6] T)) (u0 u1 u2 u3 u4 u5 u6 : Value) :
  (((set7 w b u0 u1 u2 u3 u4 u5 u6).alloc o1).alloc o2).drew.heap[b]? = some (.cells #[u0, u1, u2, u3, u4, u5, u6] T) ∧ (∀ k, k < w.heap.size → k ≠ b → (((set7 w b u0 u1 u2 u3 u4 u5 u6).alloc o1).alloc o2).drew.heap[k]? = w.heap[k]?) ∧ (((set7 w b u0 u1 u2 u3 u4 u5 u6).alloc o1).alloc o2).drew.heap.size = w.heap.size + 2 := by
 have al : ∀ k, k < w.heap.size → (((set7 w b u0 u1 u2 u3 u4 u5 u6).alloc o1).alloc o2).drew.heap[k]? = (set7 w b u0 u1 u2 u3 u4 u5 u6).heap[k]? := fun k hk => by
  show (((set7 w b u0 u1 u2 u3 u4 u5 u6).alloc o1).alloc o2).heap[k]? = _
  rw [Below.heap_alloc _ _ _ (by rw [World.size_alloc, set7_size]; omega), Below.heap_alloc _ _ _ (by rw [set7_size]; exact hk)]
 refine ⟨?_, ?_, ?_⟩
 ·rw [al b hb]
  have h0 : (w.setCell ⟨b, 0, none⟩ u0).heap[b]? = some (.cells #[u0, v1, v2, v3, v4, v5, v6] T) := heap_setCell_self (o := 0) (u := u0) h
  have h1 : ((w.setCell ⟨b, 0, none⟩ u0).setCell ⟨b, 1, none⟩ u1).heap[b]? = some (.cells #[u0, u1, v2, v3, v4, v5, v6] T) := heap_setCell_self (o := 1) (u := u1) h0
  have h2 : (((w.setCell ⟨b, 0, none⟩ u0).setCell ⟨b, 1, none⟩ u1).setCell ⟨b, 2, none⟩ u2).heap[b]? = some (.cells #[u0, u1, u2, v3, v4, v5, v6] T) := heap_setCell_self (o := 2) (u := u2) h1
  have h3 : ((((w.setCell ⟨b, 0, none⟩ u0).setCell ⟨b, 1, none⟩ u1).setCell ⟨b, 2, none⟩ u2).setCell ⟨b, 3, none⟩ u3).heap[b]? = some (.cells #[u0, u1, u2, u3, v4, v5, v6] T) := heap_setCell_self (o := 3) (u := u3) h2
  have h4 : (((((w.setCell ⟨b, 0, none⟩ u0).setCell ⟨b, 1, none⟩ u1).setCell ⟨b, 2, none⟩ u2).setCell ⟨b, 3, none⟩ u3).setCell ⟨b, 4, none⟩ u4).heap[b]? = some (.cells #[u0, u1, u2, u3, u4, v5, v6] T) := heap_setCell_self (o := 4) (u := u4) h3
  have h5 : ((((((w.setCell ⟨b, 0, none⟩ u0).setCell ⟨b, 1, none⟩ u1).setCell ⟨b, 2, none⟩ u2).setCell ⟨b, 3, none⟩ u3).setCell ⟨b, 4, none⟩ u4).setCell ⟨b, 5, none⟩ u5).heap[b]? = some (.cells #[u0, u1, u2, u3, u4, u5, v6] T) := heap_setCell_self (o := 5) (u := u5) h4
  have h6 : (((((((w.setCell ⟨b, 0, none⟩ u0).setCell ⟨b, 1, none⟩ u1).setCell ⟨b, 2, none⟩ u2).setCell ⟨b, 3, none⟩ u3).setCell ⟨b, 4, none⟩ u4).setCell ⟨b, 5, none⟩ u5).setCell ⟨b, 6, none⟩ u6).heap[b]? = some (.cells #[u0, u1, u2, u3, u4, u5, u6] T) := heap_setCell_self (o := 6) (u := u6) h5
  unfold set7
  exact h6
 ·intro k hk hn
  rw [al k hk]; unfold set7; exact heap_set7 hn _ _ _ _ _ _ _
 ·show (((set7 w b u0 u1 u2 u3 u4 u5 u6).alloc o1).alloc o2).heap.size = _
  rw [World.size_alloc, World.size_alloc, set7_size]
theorem PE.drew {S : Nat → Prop} {w : World} {k : Int} {cs : List Value} {t : List UInt8} (h : PE S w k cs t) : PE S w.drew k cs t :=
 PE.mono (S := S) (S' := S) (w := w) (w' := w.drew) (fun _ h => h) (fun _ _ _ _ hu => hu) h
theorem Kq.set7' {br : Nat} {a w : World} (h : Kq br a w) {b : Nat} (hb : a.heap.size ≤ b) (u0 u1 u2 u3 u4 u5 u6 : Value) : Kq br a (_root_.Go.Proofs.YtimmmlnememjiaaGreatDoor.set7 w b u0 u1 u2 u3 u4 u5 u6) := by
 unfold _root_.Go.Proofs.YtimmmlnememjiaaGreatDoor.set7; exact h.set7 hb _ _ _ _ _ _ _
theorem str_atV {W : World} {b : Nat} {cs : Array Value} {T : TypeId} (h : W.heap[b]? = some (.cells cs T)) (hs : cs.all isStrV = true) {k : Nat} (hk : k < cs.size) : ∃ t, W.cell? ⟨b, k, none⟩ = some (.string t) := by
 have hv := Array.all_eq_true.1 hs k hk
 have hc : W.cell? ⟨b, k, none⟩ = some cs[k] := by simp [World.cell?, h, hk]
 rw [hc]
 cases hx : cs[k] <;> rw [hx] at hv <;> simp [isStrV] at hv
 exact ⟨_, rfl⟩
theorem isOpV_some {v : Value} (h : isOpV v = true) : ∃ o, 7 ≤ o ∧ o ≤ 22 ∧ v = .int .i64 o := by
 cases v with
 | int k n =>
  cases k <;> simp [isOpV] at h
  exact ⟨n, h.1, h.2, rfl⟩
 | _ => simp [isOpV] at h
theorem op_atV {W : World} {b : Nat} {cs : Array Value} {T : TypeId} (h : W.heap[b]? = some (.cells cs T)) (hs : cs.all isOpV = true) {k : Nat} (hk : k < cs.size) : ∃ o, 7 ≤ o ∧ o ≤ 22 ∧ W.cell? ⟨b, k, none⟩ = some (.int .i64 o) := by
 have hv := Array.all_eq_true.1 hs k hk
 have hc : W.cell? ⟨b, k, none⟩ = some cs[k] := by simp [World.cell?, h, hk]
 obtain ⟨o, h1, h2, h3⟩ := isOpV_some hv
 exact ⟨o, h1, h2, by rw [hc, h3]⟩
theorem meas_lt' {m mr m5 M : Nat} {c : Int} (h : Adv c m 0 mr) (h3 : m5 < mr) (hM : meas c m ≤ M) : meas 0 m5 < M := meas_lt h h3 hM
theorem bin_pe {w w1 w3 wr w5 w6 : World} {br : Nat} {aa ov : Int} {k6 a6 op6 wd6 n6 : Int} {nm6 : ByteArray} {sa6 : Option Addr} {sl6 sc6 : Nat} {kr ar opr wdr nr : Int} {nmr : ByteArray} {sar : Option Addr} {slr scr : Nat} {tr t6 : List UInt8}
  (hlt : br < w.heap.size) (y1 : w.heap.size < w1.heap.size) (y3 : w1.heap.size < w3.heap.size) (z5 : w3.heap.size ≤ w5.heap.size) (z6 : w3.heap.size ≤ w6.heap.size) (K56 : Kq br wr w6) (ho1 : 7 ≤ ov) (ho2 : ov ≤ 22)
  (hpr : PE (fun b => w.heap.size + 1 ≤ b ∧ b ≠ w1.heap.size) wr kr [.int .i64 kr, .int .i64 ar, .int .i64 opr, .int .i64 wdr, .int .u64 nr, .string nmr, .slice sar slr scr] tr) (hp6 : PE (fun b => w5.heap.size ≤ b) w6 k6 [.int .i64 k6, .int .i64 a6, .int .i64 op6, .int .i64 wd6, .int .u64 n6, .string nm6, .slice sa6 sl6 sc6] t6) :
  PE (fun b => w.heap.size + 1 ≤ b ∧ b ≠ w1.heap.size) ((((set7 w6 w1.heap.size (.int .i64 6) (.int .i64 aa) (.int .i64 ov) (.int .i64 0) (.int .u64 0) (.string ⟨#[]⟩) (.slice (some ⟨w6.heap.size + 1, 0, none⟩) 2 2)).alloc (.cells #[.int .i64 k6, .int .i64 a6, .int .i64 op6, .int .i64 wd6, .int .u64 n6, .string nm6, .slice sa6 sl6 sc6] 55)).alloc (.cells #[.int .i64 kr, .int .i64 ar, .int .i64 opr, .int .i64 wdr, .int .u64 nr, .string nmr, .slice sar slr scr, .int .i64 k6, .int .i64 a6, .int .i64 op6, .int .i64 wd6, .int .u64 n6, .string nm6, .slice sa6 sl6 sc6] 55))) 6 [.int .i64 6, .int .i64 aa, .int .i64 ov, .int .i64 0, .int .u64 0, .string ⟨#[]⟩, .slice (some ⟨w6.heap.size + 1, 0, none⟩) 2 2] (nodeTxt 6 ov [] [(kr, [.int .i64 kr, .int .i64 ar, .int .i64 opr, .int .i64 wdr, .int .u64 nr, .string nmr, .slice sar slr scr], tr), (k6, [.int .i64 k6, .int .i64 a6, .int .i64 op6, .int .i64 wd6, .int .u64 n6, .string nm6, .slice sa6 sl6 sc6], t6)]) := by
 have al : ∀ {k : Int} {cs : List Value} {t : List UInt8}, PE (fun b => w.heap.size + 1 ≤ b ∧ b ≠ w1.heap.size) w6 k cs t → PE (fun b => w.heap.size + 1 ≤ b ∧ b ≠ w1.heap.size) ((set7 w6 w1.heap.size (.int .i64 6) (.int .i64 aa) (.int .i64 ov) (.int .i64 0) (.int .u64 0) (.string ⟨#[]⟩) (.slice (some ⟨w6.heap.size + 1, 0, none⟩) 2 2)).alloc (.cells #[.int .i64 k6, .int .i64 a6, .int .i64 op6, .int .i64 wd6, .int .u64 n6, .string nm6, .slice sa6 sl6 sc6] 55)) k cs t := fun h =>
  h.mono (fun _ h => h) (fun b o u hb hu => by
   rw [World.cell?_of_block (a := ⟨b, o, none⟩) (Below.heap_alloc _ _ _ (by rw [set7_size]; exact cell_lt hu))]
   unfold set7
   rw [World.cell?_of_block (a := ⟨b, o, none⟩) (heap_set7 hb.2 _ _ _ _ _ _ _)]; exact hu)
 have h1 := al (PE.mono (S' := (fun b => w.heap.size + 1 ≤ b ∧ b ≠ w1.heap.size)) (w' := w6) (fun _ h => h) (fun b o u hb hu => by rw [World.cell?_of_block (a := ⟨b, o, none⟩) (K56.block b (cell_lt hu) (by have := hb.1; omega))]; exact hu) hpr)
 have h2 := al (PE.mono (S' := (fun b => w.heap.size + 1 ≤ b ∧ b ≠ w1.heap.size)) (w' := w6) (fun b hb => by have h2 : w5.heap.size ≤ b := hb; exact ⟨by omega, by omega⟩) (fun _ _ _ _ hu => hu) hp6)
 have hN := node_build (S := (fun b => w.heap.size + 1 ≤ b ∧ b ≠ w1.heap.size)) (W := (set7 w6 w1.heap.size (.int .i64 6) (.int .i64 aa) (.int .i64 ov) (.int .i64 0) (.int .u64 0) (.string ⟨#[]⟩) (.slice (some ⟨w6.heap.size + 1, 0, none⟩) 2 2)).alloc (.cells #[.int .i64 k6, .int .i64 a6, .int .i64 op6, .int .i64 wd6, .int .u64 n6, .string nm6, .slice sa6 sl6 sc6] 55)) (es := [(kr, [.int .i64 kr, .int .i64 ar, .int .i64 opr, .int .i64 wdr, .int .u64 nr, .string nmr, .slice sar slr scr], tr), (k6, [.int .i64 k6, .int .i64 a6, .int .i64 op6, .int .i64 wd6, .int .u64 n6, .string nm6, .slice sa6 sl6 sc6], t6)]) (arr := #[.int .i64 kr, .int .i64 ar, .int .i64 opr, .int .i64 wdr, .int .u64 nr, .string nmr, .slice sar slr scr, .int .i64 k6, .int .i64 a6, .int .i64 op6, .int .i64 wd6, .int .u64 n6, .string nm6, .slice sa6 sl6 sc6]) (by
  intro x hx
  simp only [List.mem_cons, List.not_mem_nil, or_false] at hx
  rcases hx with rfl | rfl
  ·exact h1
  ·exact h2) rfl (by simp only [World.size_alloc, set7_size]; exact ⟨by omega, by omega⟩) 6 aa ov 0 0 [] (Or.inr (Or.inr (Or.inr (Or.inl ⟨rfl, rfl, ho1, ho2⟩))))
 rw [World.size_alloc, set7_size] at hN
 exact hN
theorem bin_rel {br : Nat} {s : ByteArray} {w w1 w2 w3 wr w5 w6 : World} {c : Int} {m mr m5 : Nat} {c6 : Int} {m6 : Nat} {cs ds : Array Value} {aa ov : Int} {k6 a6 op6 wd6 n6 : Int} {nm6 : ByteArray} {sa6 : Option Addr} {sl6 sc6 : Nat} {kr ar opr wdr nr : Int} {nmr : ByteArray} {sar : Option Addr} {slr scr : Nat}
  (hlt : br < w.heap.size) (y1 : w.heap.size < w1.heap.size) (y2 : w1.heap.size < w2.heap.size) (y3 : w2.heap.size + 1 < w3.heap.size) (z5 : w3.heap.size ≤ w5.heap.size) (z6 : w3.heap.size ≤ w6.heap.size) (hm5 : m5 < mr) (hmr : mr < m)
  (X6 : Sx br s w6 c6 m6) (KR6 : Kq br w w6) (K56 : Kq br wr w6) (B6 : w6.heap[w1.heap.size]? = some (.cells #[.int .i64 kr, .int .i64 ar, .int .i64 opr, .int .i64 wdr, .int .u64 nr, .string nmr, .slice sar slr scr] 55)) (R6 : w6.heap[w.heap.size]? = some (.cells #[.int .i64 0, .int .i64 0, .int .i64 0, .int .i64 0, .int .u64 0, .string ⟨#[]⟩, .slice none 0 0] 55)) (S6 : w6.heap[w2.heap.size]? = some (.cells cs 9)) (D6 : w6.heap[w2.heap.size + 1]? = some (.cells ds 3))
  (AR : Adv c m 0 mr) (A6 : Adv 0 m5 c6 m6) (ho1 : 7 ≤ ov) (ho2 : ov ≤ 22) (PR : ∃ t, PE (fun b => w.heap.size + 1 ≤ b ∧ b ≠ w1.heap.size) wr kr [.int .i64 kr, .int .i64 ar, .int .i64 opr, .int .i64 wdr, .int .u64 nr, .string nmr, .slice sar slr scr] t ∧ t.length ≤ 64 * (m - mr)) (P6 : c6 = 0 → ∃ t, PE (fun b => w5.heap.size ≤ b) w6 k6 [.int .i64 k6, .int .i64 a6, .int .i64 op6, .int .i64 wd6, .int .u64 n6, .string nm6, .slice sa6 sl6 sc6] t ∧ t.length ≤ 64 * (m5 - m6)) :
  Hid (Sx br s (((((((((w6.setCell ⟨w1.heap.size, 0, none⟩ (.int .i64 6)).setCell ⟨w1.heap.size, 1, none⟩ (.int .i64 aa)).setCell ⟨w1.heap.size, 2, none⟩ (.int .i64 ov)).setCell ⟨w1.heap.size, 3, none⟩ (.int .i64 0)).setCell ⟨w1.heap.size, 4, none⟩ (.int .u64 0)).setCell ⟨w1.heap.size, 5, none⟩ (.string ⟨#[]⟩)).setCell ⟨w1.heap.size, 6, none⟩ (.slice (some ⟨w6.heap.size + 1, 0, none⟩) 2 2)).alloc (.cells #[.int .i64 k6, .int .i64 a6, .int .i64 op6, .int .i64 wd6, .int .u64 n6, .string nm6, .slice sa6 sl6 sc6] 55)).alloc (.cells #[.int .i64 kr, .int .i64 ar, .int .i64 opr, .int .i64 wdr, .int .u64 nr, .string nmr, .slice sar slr scr, .int .i64 k6, .int .i64 a6, .int .i64 op6, .int .i64 wd6, .int .u64 n6, .string nm6, .slice sa6 sl6 sc6] 55)).drew c6 m6) ∧ Hid (Kq br w (((((((((w6.setCell ⟨w1.heap.size, 0, none⟩ (.int .i64 6)).setCell ⟨w1.heap.size, 1, none⟩ (.int .i64 aa)).setCell ⟨w1.heap.size, 2, none⟩ (.int .i64 ov)).setCell ⟨w1.heap.size, 3, none⟩ (.int .i64 0)).setCell ⟨w1.heap.size, 4, none⟩ (.int .u64 0)).setCell ⟨w1.heap.size, 5, none⟩ (.string ⟨#[]⟩)).setCell ⟨w1.heap.size, 6, none⟩ (.slice (some ⟨w6.heap.size + 1, 0, none⟩) 2 2)).alloc (.cells #[.int .i64 k6, .int .i64 a6, .int .i64 op6, .int .i64 wd6, .int .u64 n6, .string nm6, .slice sa6 sl6 sc6] 55)).alloc (.cells #[.int .i64 kr, .int .i64 ar, .int .i64 opr, .int .i64 wdr, .int .u64 nr, .string nmr, .slice sar slr scr, .int .i64 k6, .int .i64 a6, .int .i64 op6, .int .i64 wd6, .int .u64 n6, .string nm6, .slice sa6 sl6 sc6] 55)).drew) ∧ Hid ((((((((((w6.setCell ⟨w1.heap.size, 0, none⟩ (.int .i64 6)).setCell ⟨w1.heap.size, 1, none⟩ (.int .i64 aa)).setCell ⟨w1.heap.size, 2, none⟩ (.int .i64 ov)).setCell ⟨w1.heap.size, 3, none⟩ (.int .i64 0)).setCell ⟨w1.heap.size, 4, none⟩ (.int .u64 0)).setCell ⟨w1.heap.size, 5, none⟩ (.string ⟨#[]⟩)).setCell ⟨w1.heap.size, 6, none⟩ (.slice (some ⟨w6.heap.size + 1, 0, none⟩) 2 2)).alloc (.cells #[.int .i64 k6, .int .i64 a6, .int .i64 op6, .int .i64 wd6, .int .u64 n6, .string nm6, .slice sa6 sl6 sc6] 55)).alloc (.cells #[.int .i64 kr, .int .i64 ar, .int .i64 opr, .int .i64 wdr, .int .u64 nr, .string nmr, .slice sar slr scr, .int .i64 k6, .int .i64 a6, .int .i64 op6, .int .i64 wd6, .int .u64 n6, .string nm6, .slice sa6 sl6 sc6] 55)).drew.heap[w1.heap.size]? = some (.cells #[.int .i64 6, .int .i64 aa, .int .i64 ov, .int .i64 0, .int .u64 0, .string ⟨#[]⟩, .slice (some ⟨w6.heap.size + 1, 0, none⟩) 2 2] 55)) ∧ Hid ((((((((((w6.setCell ⟨w1.heap.size, 0, none⟩ (.int .i64 6)).setCell ⟨w1.heap.size, 1, none⟩ (.int .i64 aa)).setCell ⟨w1.heap.size, 2, none⟩ (.int .i64 ov)).setCell ⟨w1.heap.size, 3, none⟩ (.int .i64 0)).setCell ⟨w1.heap.size, 4, none⟩ (.int .u64 0)).setCell ⟨w1.heap.size, 5, none⟩ (.string ⟨#[]⟩)).setCell ⟨w1.heap.size, 6, none⟩ (.slice (some ⟨w6.heap.size + 1, 0, none⟩) 2 2)).alloc (.cells #[.int .i64 k6, .int .i64 a6, .int .i64 op6, .int .i64 wd6, .int .u64 n6, .string nm6, .slice sa6 sl6 sc6] 55)).alloc (.cells #[.int .i64 kr, .int .i64 ar, .int .i64 opr, .int .i64 wdr, .int .u64 nr, .string nmr, .slice sar slr scr, .int .i64 k6, .int .i64 a6, .int .i64 op6, .int .i64 wd6, .int .u64 n6, .string nm6, .slice sa6 sl6 sc6] 55)).drew.heap[w.heap.size]? = some (.cells #[.int .i64 0, .int .i64 0, .int .i64 0, .int .i64 0, .int .u64 0, .string ⟨#[]⟩, .slice none 0 0] 55)) ∧ Hid ((((((((((w6.setCell ⟨w1.heap.size, 0, none⟩ (.int .i64 6)).setCell ⟨w1.heap.size, 1, none⟩ (.int .i64 aa)).setCell ⟨w1.heap.size, 2, none⟩ (.int .i64 ov)).setCell ⟨w1.heap.size, 3, none⟩ (.int .i64 0)).setCell ⟨w1.heap.size, 4, none⟩ (.int .u64 0)).setCell ⟨w1.heap.size, 5, none⟩ (.string ⟨#[]⟩)).setCell ⟨w1.heap.size, 6, none⟩ (.slice (some ⟨w6.heap.size + 1, 0, none⟩) 2 2)).alloc (.cells #[.int .i64 k6, .int .i64 a6, .int .i64 op6, .int .i64 wd6, .int .u64 n6, .string nm6, .slice sa6 sl6 sc6] 55)).alloc (.cells #[.int .i64 kr, .int .i64 ar, .int .i64 opr, .int .i64 wdr, .int .u64 nr, .string nmr, .slice sar slr scr, .int .i64 k6, .int .i64 a6, .int .i64 op6, .int .i64 wd6, .int .u64 n6, .string nm6, .slice sa6 sl6 sc6] 55)).drew.heap[w2.heap.size]? = some (.cells cs 9)) ∧ Hid ((((((((((w6.setCell ⟨w1.heap.size, 0, none⟩ (.int .i64 6)).setCell ⟨w1.heap.size, 1, none⟩ (.int .i64 aa)).setCell ⟨w1.heap.size, 2, none⟩ (.int .i64 ov)).setCell ⟨w1.heap.size, 3, none⟩ (.int .i64 0)).setCell ⟨w1.heap.size, 4, none⟩ (.int .u64 0)).setCell ⟨w1.heap.size, 5, none⟩ (.string ⟨#[]⟩)).setCell ⟨w1.heap.size, 6, none⟩ (.slice (some ⟨w6.heap.size + 1, 0, none⟩) 2 2)).alloc (.cells #[.int .i64 k6, .int .i64 a6, .int .i64 op6, .int .i64 wd6, .int .u64 n6, .string nm6, .slice sa6 sl6 sc6] 55)).alloc (.cells #[.int .i64 kr, .int .i64 ar, .int .i64 opr, .int .i64 wdr, .int .u64 nr, .string nmr, .slice sar slr scr, .int .i64 k6, .int .i64 a6, .int .i64 op6, .int .i64 wd6, .int .u64 n6, .string nm6, .slice sa6 sl6 sc6] 55)).drew.heap[w2.heap.size + 1]? = some (.cells ds 3)) ∧ w3.heap.size ≤ (((((((((w6.setCell ⟨w1.heap.size, 0, none⟩ (.int .i64 6)).setCell ⟨w1.heap.size, 1, none⟩ (.int .i64 aa)).setCell ⟨w1.heap.size, 2, none⟩ (.int .i64 ov)).setCell ⟨w1.heap.size, 3, none⟩ (.int .i64 0)).setCell ⟨w1.heap.size, 4, none⟩ (.int .u64 0)).setCell ⟨w1.heap.size, 5, none⟩ (.string ⟨#[]⟩)).setCell ⟨w1.heap.size, 6, none⟩ (.slice (some ⟨w6.heap.size + 1, 0, none⟩) 2 2)).alloc (.cells #[.int .i64 k6, .int .i64 a6, .int .i64 op6, .int .i64 wd6, .int .u64 n6, .string nm6, .slice sa6 sl6 sc6] 55)).alloc (.cells #[.int .i64 kr, .int .i64 ar, .int .i64 opr, .int .i64 wdr, .int .u64 nr, .string nmr, .slice sar slr scr, .int .i64 k6, .int .i64 a6, .int .i64 op6, .int .i64 wd6, .int .u64 n6, .string nm6, .slice sa6 sl6 sc6] 55)).drew.heap.size ∧ Hid (Adv c m c6 m6) ∧ Hid (c6 = 0 → ∃ t, PE (fun b => w.heap.size + 1 ≤ b ∧ b ≠ w1.heap.size) (((((((((w6.setCell ⟨w1.heap.size, 0, none⟩ (.int .i64 6)).setCell ⟨w1.heap.size, 1, none⟩ (.int .i64 aa)).setCell ⟨w1.heap.size, 2, none⟩ (.int .i64 ov)).setCell ⟨w1.heap.size, 3, none⟩ (.int .i64 0)).setCell ⟨w1.heap.size, 4, none⟩ (.int .u64 0)).setCell ⟨w1.heap.size, 5, none⟩ (.string ⟨#[]⟩)).setCell ⟨w1.heap.size, 6, none⟩ (.slice (some ⟨w6.heap.size + 1, 0, none⟩) 2 2)).alloc (.cells #[.int .i64 k6, .int .i64 a6, .int .i64 op6, .int .i64 wd6, .int .u64 n6, .string nm6, .slice sa6 sl6 sc6] 55)).alloc (.cells #[.int .i64 kr, .int .i64 ar, .int .i64 opr, .int .i64 wdr, .int .u64 nr, .string nmr, .slice sar slr scr, .int .i64 k6, .int .i64 a6, .int .i64 op6, .int .i64 wd6, .int .u64 n6, .string nm6, .slice sa6 sl6 sc6] 55)).drew 6 [.int .i64 6, .int .i64 aa, .int .i64 ov, .int .i64 0, .int .u64 0, .string ⟨#[]⟩, .slice (some ⟨w6.heap.size + 1, 0, none⟩) 2 2] t ∧ t.length ≤ 64 * (m - m6)) := by
 have F := set7_two (w := w6) (b := w1.heap.size) (o1 := (.cells #[.int .i64 k6, .int .i64 a6, .int .i64 op6, .int .i64 wd6, .int .u64 n6, .string nm6, .slice sa6 sl6 sc6] 55)) (o2 := (.cells #[.int .i64 kr, .int .i64 ar, .int .i64 opr, .int .i64 wdr, .int .u64 nr, .string nmr, .slice sar slr scr, .int .i64 k6, .int .i64 a6, .int .i64 op6, .int .i64 wd6, .int .u64 n6, .string nm6, .slice sa6 sl6 sc6] 55)) (by omega) B6 (.int .i64 6) (.int .i64 aa) (.int .i64 ov) (.int .i64 0) (.int .u64 0) (.string ⟨#[]⟩) (.slice (some ⟨w6.heap.size + 1, 0, none⟩) 2 2)
 have hK : Kq br w ((((set7 w6 w1.heap.size (.int .i64 6) (.int .i64 aa) (.int .i64 ov) (.int .i64 0) (.int .u64 0) (.string ⟨#[]⟩) (.slice (some ⟨w6.heap.size + 1, 0, none⟩) 2 2)).alloc (.cells #[.int .i64 k6, .int .i64 a6, .int .i64 op6, .int .i64 wd6, .int .u64 n6, .string nm6, .slice sa6 sl6 sc6] 55)).alloc (.cells #[.int .i64 kr, .int .i64 ar, .int .i64 opr, .int .i64 wdr, .int .u64 nr, .string nmr, .slice sar slr scr, .int .i64 k6, .int .i64 a6, .int .i64 op6, .int .i64 wd6, .int .u64 n6, .string nm6, .slice sa6 sl6 sc6] 55)).drew) := (((KR6.set7' (by omega) _ _ _ _ _ _ _).alloc _).alloc _).drew
 have hP : c6 = 0 → ∃ t, PE (fun b => w.heap.size + 1 ≤ b ∧ b ≠ w1.heap.size) ((((set7 w6 w1.heap.size (.int .i64 6) (.int .i64 aa) (.int .i64 ov) (.int .i64 0) (.int .u64 0) (.string ⟨#[]⟩) (.slice (some ⟨w6.heap.size + 1, 0, none⟩) 2 2)).alloc (.cells #[.int .i64 k6, .int .i64 a6, .int .i64 op6, .int .i64 wd6, .int .u64 n6, .string nm6, .slice sa6 sl6 sc6] 55)).alloc (.cells #[.int .i64 kr, .int .i64 ar, .int .i64 opr, .int .i64 wdr, .int .u64 nr, .string nmr, .slice sar slr scr, .int .i64 k6, .int .i64 a6, .int .i64 op6, .int .i64 wd6, .int .u64 n6, .string nm6, .slice sa6 sl6 sc6] 55)).drew) 6 [.int .i64 6, .int .i64 aa, .int .i64 ov, .int .i64 0, .int .u64 0, .string ⟨#[]⟩, .slice (some ⟨w6.heap.size + 1, 0, none⟩) 2 2] t ∧ t.length ≤ 64 * (m - m6) := by
  intro hc
  obtain ⟨t6, hp6, hl6⟩ := P6 hc
  obtain ⟨tr, hpr, hlr⟩ := PR
  have hm6 := (A6.2 hc).2
  have hN := bin_pe hlt y1 (by omega) z5 z6 K56 ho1 ho2 hpr hp6 (aa := aa)
  refine ⟨_, hN.drew, ?_⟩
  have hnl := node6 ov [] (kr, [.int .i64 kr, .int .i64 ar, .int .i64 opr, .int .i64 wdr, .int .u64 nr, .string nmr, .slice sar slr scr], tr) (k6, [.int .i64 k6, .int .i64 a6, .int .i64 op6, .int .i64 wd6, .int .u64 n6, .string nm6, .slice sa6 sl6 sc6], t6) ho1 ho2
  simp only at hnl
  omega
 obtain ⟨f1, f2, f3⟩ := F
 have hX := X6.to (f2 br (by omega) (by omega))
 have hR := (f2 w.heap.size (by omega) (by omega)).trans R6
 have hS := (f2 w2.heap.size (by omega) (by omega)).trans S6
 have hD := (f2 (w2.heap.size + 1) (by omega) (by omega)).trans D6
 have hZ : w3.heap.size ≤ (((set7 w6 w1.heap.size (.int .i64 6) (.int .i64 aa) (.int .i64 ov) (.int .i64 0) (.int .u64 0) (.string ⟨#[]⟩) (.slice (some ⟨w6.heap.size + 1, 0, none⟩) 2 2)).alloc (.cells #[.int .i64 k6, .int .i64 a6, .int .i64 op6, .int .i64 wd6, .int .u64 n6, .string nm6, .slice sa6 sl6 sc6] 55)).alloc (.cells #[.int .i64 kr, .int .i64 ar, .int .i64 opr, .int .i64 wdr, .int .u64 nr, .string nmr, .slice sar slr scr, .int .i64 k6, .int .i64 a6, .int .i64 op6, .int .i64 wd6, .int .u64 n6, .string nm6, .slice sa6 sl6 sc6] 55)).drew.heap.size := by rw [f3]; omega
 have hA : Adv c m c6 m6 := Adv.trans AR (Adv.trans ⟨Nat.le_of_lt hm5, fun _ => ⟨rfl, hm5⟩⟩ A6)
 clear f1 f2 f3 AR A6 PR P6 K56 KR6 X6 R6 S6 D6
 have f1 := (set7_two (w := w6) (b := w1.heap.size) (o1 := (.cells #[.int .i64 k6, .int .i64 a6, .int .i64 op6, .int .i64 wd6, .int .u64 n6, .string nm6, .slice sa6 sl6 sc6] 55)) (o2 := (.cells #[.int .i64 kr, .int .i64 ar, .int .i64 opr, .int .i64 wdr, .int .u64 nr, .string nmr, .slice sar slr scr, .int .i64 k6, .int .i64 a6, .int .i64 op6, .int .i64 wd6, .int .u64 n6, .string nm6, .slice sa6 sl6 sc6] 55)) (by omega) B6 (.int .i64 6) (.int .i64 aa) (.int .i64 ov) (.int .i64 0) (.int .u64 0) (.string ⟨#[]⟩) (.slice (some ⟨w6.heap.size + 1, 0, none⟩) 2 2)).1
 unfold set7 at hK hP hX hR hS hD hZ f1
 exact ⟨hX, hK, f1, hR, hS, hD, hZ, hA, hP⟩
theorem bin10 (M : Nat) (CU : CUnary M) : CBin M 10 := by
 intro br s c m w h hM
 have HX := hI h
 have hlt := h.lt
 have HM := hI hM
 have HU := hI CU
 clear hM CU h
 go_enter Tryz.func39, Tryz.ntmps39
 go_wp2_with fail
 generalize hW : w.alloc (.cells _ 55) = W
 obtain ⟨hz, r0, o0, kW⟩ := one_box hW
 have KW := kW br
 have SW : Hid (Sx br s W c m) := HX.out.to (o0 br hlt)
 clear hW kW o0
 refine (HU.out br s c m W SW.out HM.out).mono ?_
 rintro e w2 ⟨k2, a2, op2, wd2, n2, nm2, sa2, sl2, sc2, rfl, hk2, c', m', hx2, ha2, hp2⟩
 have r2 := (hk2.block w.heap.size (by omega) (by omega)).trans r0
 have K2 : Hid (Kq br w w2) := KW.out.trans hk2
 have X2 := hI hx2
 have A2 := hI ha2
 have P2 := hI hp2
 clear hk2 hx2 ha2 hp2
 obtain ⟨q0, q1, q2, q3, q4, q5, q6, qf, ql⟩ := bx r2
 clear r2 r0
 go_wp2_with fail
 exact bodyPost_ret (v := .agg #[.int .i64 k2, .int .i64 a2, .int .i64 op2, .int .i64 wd2, .int .u64 n2, .string nm2, .slice sa2 sl2 sc2]) (by simp [results, Tryz.results39, go_sem, *]) rfl (ex_close hlt K2.out X2.out A2.out fun hc => by
  obtain ⟨t, hp, hl⟩ := P2.out hc
  exact ⟨t, pe_le hp (by omega), hl⟩)
theorem bin_step (M l : Nat) (hl : l ≤ 9) (CB : CBin M (l + 1)) (IB : ∀ M', M' < M → CBin M' (l + 1)) : CBin M l := by
 intro br s c m w h hM
 have HX := hI h
 have hlt := h.lt
 have HM := hI hM
 have HC := hI CB
 have HI := hI IB
 clear hM CB IB h
 go_enter Tryz.func39, Tryz.ntmps39
 go_wp2_with fail
 generalize hW : w.alloc (.cells _ 55) = W
 obtain ⟨hz, r0, o0, kW⟩ := one_box hW
 have KW := kW br
 have SW : Hid (Sx br s W c m) := HX.out.to (o0 br hlt)
 clear hW kW o0
 rw [show ((l : Int) + 1) = ((l + 1 : Nat) : Int) from by omega]
 refine (HC.out br s c m W SW.out HM.out).mono ?_
 rintro e w1 ⟨k1, a1, op1, wd1, n1, nm1, sa1, sl1, sc1, rfl, hk1, c1, m1, hx1, ha1, hp1⟩
 have r1 := (hk1.block w.heap.size (by omega) (by omega)).trans r0
 have z1 : w.heap.size + 1 ≤ w1.heap.size := by have := hk1.size; omega
 have K1 : Hid (Kq br w w1) := KW.out.trans hk1
 have X1 := hI hx1
 have A1 := hI ha1
 have P1 := hI hp1
 have R1 := hI r1
 clear hk1 hx1 ha1 hp1 r1 r0 KW SW
 go_wp2_with fail
 generalize hW2 : w1.alloc (.cells _ 55) = w2
 obtain ⟨z2, b2, o2, k12⟩ := one_box hW2
 have K12 := k12 br
 have B2 := hI b2
 have O2 := hI o2
 clear hW2 k12 o2 b2
 refine (ops_any l (by omega) (by omega) _).mono ?_
 rintro e w3 ⟨nn, cs, ds, hn1, hn4, rfl, hcs, hds, hca, hda, hw3⟩
 obtain ⟨z3, s3, d3, k23, sx23⟩ := two_boxes hw3.symm
 have K13 : Hid (Kq br w1 w3) := K12.out.trans (k23 br).out
 have X3 : Hid (Sx br s w3 c1 m1) := (sx23 br s c1 m1 (X1.out.to (O2.out br X1.out.lt))).out
 have B3 : Hid (w3.heap[w1.heap.size]? = some (.cells #[.int .i64 k1, .int .i64 a1, .int .i64 op1, .int .i64 wd1, .int .u64 n1, .string nm1, .slice sa1 sl1 sc1] 55)) := by
  have h := B2.out
  rw [hw3]; show _ = _
  rw [Below.heap_alloc _ _ _ (by simp; omega), Below.heap_alloc _ _ _ (by omega)]; exact h
 have R3 := hI ((K13.out.block w.heap.size (by omega) (by omega)).trans R1.out)
 have S3 := hI s3
 have D3 := hI d3
 have HCA := hI hca
 have HDA := hI hda
 have HCS := hI hcs
 have HDS := hI hds
 have K3 : Hid (Kq br w w3) := K1.out.trans K13.out
 have y2 : w1.heap.size < w2.heap.size := by omega
 have y3 : w2.heap.size + 1 < w3.heap.size := by omega
 have PP : Hid (c1 = 0 → ∃ t, PE (fun b => w.heap.size + 1 ≤ b ∧ b ≠ w1.heap.size) w3 k1 [.int .i64 k1, .int .i64 a1, .int .i64 op1, .int .i64 wd1, .int .u64 n1, .string nm1, .slice sa1 sl1 sc1] t ∧ t.length ≤ 64 * (m - m1)) := by
  intro hc
  obtain ⟨t, hp, hl⟩ := P1.out hc
  refine ⟨t, ?_, hl⟩
  refine hp.strong.mono ?_ ?_
  ·intro b hb
   have h1 : W.heap.size ≤ b := hb.1
   have h2 := hb.2
   exact ⟨by omega, by omega⟩
  ·intro b o u hb hu
   have h1 : W.heap.size ≤ b := hb.1
   rw [World.cell?_of_block (a := ⟨b, o, none⟩) (K13.out.block b (cell_lt hu) (by omega))]; exact hu
 clear hw3 sx23 k23 s3 d3 hca hda hcs hds K12 K13 K1 B2 O2 R1 X1 P1 z2 z3
 go_wp2_with fail
 go_loopg [8, 9, 10, 11, 12] m1 (fun gk _ _ _ _ _ wr => ∃ (cr : Int) (mr : Nat) (kr ar opr wdr nr : Int) (nmr : ByteArray) (sar : Option Addr) (slr scr : Nat), gk = mr ∧ Hid (Sx br s wr cr mr) ∧ Hid (Kq br w wr) ∧ Hid (wr.heap[w1.heap.size]? = some (.cells #[.int .i64 kr, .int .i64 ar, .int .i64 opr, .int .i64 wdr, .int .u64 nr, .string nmr, .slice sar slr scr] 55)) ∧ Hid (wr.heap[w.heap.size]? = some (.cells #[.int .i64 0, .int .i64 0, .int .i64 0, .int .i64 0, .int .u64 0, .string ⟨#[]⟩, .slice none 0 0] 55)) ∧ Hid (wr.heap[w2.heap.size]? = some (.cells cs 9)) ∧ Hid (wr.heap[w2.heap.size + 1]? = some (.cells ds 3)) ∧ w3.heap.size ≤ wr.heap.size ∧ Hid (Adv c m cr mr) ∧ Hid (cr = 0 → ∃ t, PE (fun b => w.heap.size + 1 ≤ b ∧ b ≠ w1.heap.size) wr kr [.int .i64 kr, .int .i64 ar, .int .i64 opr, .int .i64 wdr, .int .u64 nr, .string nmr, .slice sar slr scr] t ∧ t.length ≤ 64 * (m - mr)))
 case atStart => exact ⟨c1, m1, k1, a1, op1, wd1, n1, nm1, sa1, sl1, sc1, rfl, X3, K3, B3, R3, S3, D3, Nat.le_refl _, A1, PP⟩
 case round =>
  obtain ⟨cr, mr, kr, ar, opr, wdr, nr, nmr, sar, slr, scr, hgk, XR, KR, BR, RR, SR, DR, zR, AR, PR⟩ := hrel
  subst hgk
  clear X3 K3 B3 R3 S3 D3 PP
  have XS := XR.out
  obtain ⟨kt, wdt, nt, Tt, hst⟩ := XS
  have HST := hI hst
  obtain ⟨aa, qa, faa, hra, h'⟩ := hst
  obtain ⟨f0, f1, f2, f3, f4, f5, f6, f7, f8, fz⟩ := hra.all
  have hbrR : br < wr.heap.size := hra.lt
  clear h' hra
  by_cases hcr : cr = 0
  ·subst hcr
   have PRz := hI (PR.out rfl)
   have ARz := hI (AR.out.2 rfl)
   go_wp2_with fail
   go_loop [8, 9, 10] (fun kv iv _ => ∃ (kk : Int) (j : Nat), j ≤ nn ∧ -1 ≤ kk ∧ kk < nn ∧ kv = .int .i64 kk ∧ iv = .int .i64 j ∧ Hid (0 ≤ kk → kt = 3)) (fun _ iv _ => nn - (intOf iv).toNat)
   case atStart => exact ⟨-1, 0, by omega, by omega, by omega, rfl, rfl, fun h => by omega⟩
   case round =>
    obtain ⟨kk, j, hj, hkk1, hkk2, rfl, rfl, HK⟩ := hrel
    by_cases hjn : j < nn
    ·obtain ⟨tk, htk⟩ := str_atV SR.out HCA.out (k := j) (by have := HCS.out; omega)
     go_wp2_with fail
     refine (is_st HST.out _).mono ?_
     rintro e wq ⟨b, rfl, rfl, hb⟩
     have HBk := hI hb
     clear hb
     cases b
     case false =>
      go_wp2_with fail
      exact ⟨⟨kk, j + 1, by omega, hkk1, hkk2, rfl, by go_num, HK⟩, by simp [intOf]; omega⟩
     case true =>
      have HK3 := hI (HBk.out rfl).2
      clear HBk
      go_wp2_with fail
      exact ⟨⟨j, j + 1, by omega, by omega, by omega, rfl, by go_num, fun _ => HK3.out⟩, by simp [intOf]; omega⟩
    ·by_cases hkk0 : kk < 0
     ·obtain ⟨p0, p1, p2, p3, p4, p5, p6, pf, pl⟩ := bx BR.out
      obtain ⟨q0, q1, q2, q3, q4, q5, q6, qf, ql⟩ := bx RR.out
      go_wp2_with fail
      exact bodyPost_ret (v := .agg #[.int .i64 kr, .int .i64 ar, .int .i64 opr, .int .i64 wdr, .int .u64 nr, .string nmr, .slice sar slr scr]) (by simp [results, Tryz.results39, go_sem, *]) rfl (ex_close hlt KR.out XR.out AR.out fun _ => by
       obtain ⟨t, hp, hl⟩ := PRz.out
       exact ⟨t, hp.mono (fun _ h => h.1) (fun _ _ _ _ hu => hu), hl⟩)
     ·obtain ⟨kn, rfl⟩ := Int.eq_ofNat_of_zero_le (a := kk) (by omega)
      have hkn : kn < nn := by omega
      have h3 := HK.out (by omega)
      subst h3
      clear HK hkk1 hkk0
      go_wp2_with fail
      refine (step_st HST.out (by decide) (by decide)).mono ?_
      rintro e w5 ⟨rfl, hk5, m5, hm5, hx5⟩
      have X5 := hI hx5
      have K5 := hI hk5
      have b5 := (hk5.block w1.heap.size (by omega) (by omega)).trans BR.out
      have r5 := (hk5.block w.heap.size (by omega) (by omega)).trans RR.out
      have s5 := (hk5.block w2.heap.size (by omega) (by omega)).trans SR.out
      have d5 := (hk5.block (w2.heap.size + 1) (by omega) (by omega)).trans DR.out
      have z5 : w3.heap.size ≤ w5.heap.size := by have := hk5.size; omega
      have KR5 : Hid (Kq br w w5) := KR.out.trans hk5
      have HL : Hid (meas 0 m5 < M) := meas_lt' AR.out hm5 HM.out
      clear hx5 hk5 f0 f1 f2 f3 f4 f5 f6 f7 f8 fz HST SR DR BR RR KR XR
      go_wp2_with fail
      rw [show ((l : Int) + 1) = ((l + 1 : Nat) : Int) from by omega]
      refine (HI.out _ HL.out br s 0 m5 w5 X5.out (Nat.le_refl _)).mono ?_
      rintro e w6 ⟨k6, a6, op6, wd6, n6, nm6, sa6, sl6, sc6, rfl, hk6, c6, m6, hx6, ha6, hp6⟩
      have b6 := (hk6.block w1.heap.size (by omega) (by omega)).trans b5
      have r6 := (hk6.block w.heap.size (by omega) (by omega)).trans r5
      have s6 := (hk6.block w2.heap.size (by omega) (by omega)).trans s5
      have d6 := (hk6.block (w2.heap.size + 1) (by omega) (by omega)).trans d5
      have z6 : w3.heap.size ≤ w6.heap.size := by have := hk6.size; omega
      have KR6 : Hid (Kq br w w6) := KR5.out.trans hk6
      have K56 : Hid (Kq br wr w6) := K5.out.trans hk6
      have X6 := hI hx6
      have A6 := hI ha6
      have P6 := hI hp6
      have B6 := hI b6
      have R6 := hI r6
      have S6 := hI s6
      have D6 := hI d6
      obtain ⟨ov, ho1, ho2, hov⟩ := op_atV d6 HDA.out (k := kn) (by have := HDS.out; omega)
      have HO : Hid (7 ≤ ov ∧ ov ≤ 22) := ⟨ho1, ho2⟩
      obtain ⟨p0, p1, p2, p3, p4, p5, p6, pf, pl⟩ := bx b6
      clear hk6 hx6 ha6 hp6 b5 r5 s5 d5 b6 r6 s6 d6 KR5 K5 X5 HL ho1 ho2
      have hknI : (kn : Int) < nn := by omega
      have zz6 : w2.heap.size + 1 < w6.heap.size := by omega
      have zz7 : w2.heap.size + 1 < w6.heap.size + 1 := by omega
      have zz8 : w1.heap.size < w6.heap.size + 1 := by omega
      go_wp2_with fail
      go_region
      all_goals
       go_wp2_with fail
       go_roundg m6
       case measure => have := A6.out.1; omega
       case rel =>
        exact ⟨c6, m6, 6, aa, ov, 0, 0, ⟨#[]⟩, some ⟨w6.heap.size + 1, 0, none⟩, 2, 2, rfl, bin_rel hlt (by omega) y2 y3 z5 z6 hm5 ARz.out.2 X6.out KR6.out K56.out B6.out R6.out S6.out D6.out AR.out A6.out HO.out.1 HO.out.2 PRz.out P6.out⟩
  ·have g1 : (cr == 0) = false := beq_eq_false_iff_ne.2 hcr
   clear hcr
   obtain ⟨p0, p1, p2, p3, p4, p5, p6, pf, pl⟩ := bx BR.out
   obtain ⟨q0, q1, q2, q3, q4, q5, q6, qf, ql⟩ := bx RR.out
   go_wp2_with fail
   exact bodyPost_ret (v := .agg #[.int .i64 kr, .int .i64 ar, .int .i64 opr, .int .i64 wdr, .int .u64 nr, .string nmr, .slice sar slr scr]) (by simp [results, Tryz.results39, go_sem, *]) rfl (ex_close hlt KR.out XR.out AR.out fun hc => by
    obtain ⟨t, hp, hl⟩ := PR.out hc
    exact ⟨t, hp.mono (fun _ h => h.1) (fun _ _ _ _ hu => hu), hl⟩)
structure AllEx (M : Nat) : Prop where
 place : CPlace M
 braces : CBraces M
 prim : CPrim M
 unary : CUnary M
 bin : ∀ l, l ≤ 10 → CBin M l
 expr : CExpr M
theorem all_ex (M : Nat) : AllEx M := by
 induction M using Nat.strongRecOn with
 | _ M ih =>
  have hp : CPlace M := fun br s c m w h hM => place_any M (fun M' h => (ih M' h).expr) br s c m w h hM
  have hb : CBraces M := braces_any M (fun M' h => (ih M' h).expr) (fun M' h => (ih M' h).braces)
  have hr : CPrim M := prim_any M (fun M' h => (ih M' h).expr) hp hb
  have hu : CUnary M := unary_any M (fun M' h => (ih M' h).unary) hr
  have hbin : ∀ d l, d + l = 10 → CBin M l := by
   intro d
   induction d with
   | zero => intro l h; obtain rfl : l = 10 := (by omega); exact bin10 M hu
   | succ d ihd => intro l h; exact bin_step M l (by omega) (ihd (l + 1) (by omega)) (fun M' h' => (ih M' h').bin (l + 1) (by omega))
  have hbin' : ∀ l, l ≤ 10 → CBin M l := fun l h => hbin (10 - l) l (by omega)
  exact ⟨hp, hb, hr, hu, hbin', expr_any M (fun M' h => (ih M' h).expr) (hbin' 0 (by omega))⟩
theorem expr_read {br : Nat} {s : ByteArray} {c : Int} {m : Nat} {w : World} (h : Sx br s w c m) : Calls Tryz.prog 19 #[.pointer (some ⟨br, 0, none⟩)] w (ExPost br s c m w) := (all_ex _).expr br s c m w h (Nat.le_refl _)
theorem place_read {br : Nat} {s : ByteArray} {c : Int} {m : Nat} {w : World} (h : Sx br s w c m) : Calls Tryz.prog 75 #[.pointer (some ⟨br, 0, none⟩)] w (ExPost br s c m w) := (all_ex _).place br s c m w h (Nat.le_refl _)
def ElsS (S : Nat → Prop) (L : Nat) (w : World) (v : Value) (es : List Ele) : Prop :=
 w.ownsRow L 55 7 v es.length (es.flatMap (·.2.1)) ∧ (∀ g, v.ownBlock = some g → S g) ∧ ∀ x ∈ es, PE (fun b => S b ∧ some b ≠ v.ownBlock) w x.1 x.2.1 x.2.2
theorem ElsS.nil (S : Nat → Prop) (L : Nat) (w : World) : ElsS S L w (.slice none 0 0) [] := ⟨World.ownsRow_nil w L 55 7, fun g h => by simp [Value.ownBlock] at h, fun x h => by cases h⟩
theorem ElsS.to {S : Nat → Prop} {L : Nat} {w w' : World} {v : Value} {es : List Ele} (h : ElsS S L w v es) (hb : ∀ k, S k → k < w.heap.size → w'.heap[k]? = w.heap[k]?) : ElsS S L w' v es := by
 refine ⟨⟨h.1.1, ?_⟩, h.2.1, fun x hx => ?_⟩
 ·rcases h.1.2 with h0 | ⟨g, cap, cur, hv, hL, hg, hr⟩
  ·exact .inl h0
  ·refine .inr ⟨g, cap, cur, hv, hL, ?_, hr⟩
   have hlt : g < w.heap.size := by
    rcases Nat.lt_or_ge g w.heap.size with h1 | h1
    ·exact h1
    ·rw [Array.getElem?_eq_none h1] at hg; cases hg
   rw [hb g (h.2.1 g (by rw [hv]; rfl)) hlt]; exact hg
 ·exact (h.2.2 x hx).mono (fun b h => h) (fun b o u hS hu => by
   rw [World.cell?_of_block (a := ⟨b, o, none⟩) (hb b hS.1 (cell_lt hu))]; exact hu)
theorem ElsS.push {S : Nat → Prop} {L : Nat} {w w' : World} {v : Value} {es : List Ele} (h : ElsS S L w v es) (x : Ele) (hx : PE (fun b => S b ∧ some b ≠ v.ownBlock) w x.1 x.2.1 x.2.2) {g cap : Nat} (hSg : S g)
  (hown : w'.ownsRow L 55 7 (.slice (some ⟨g, 0, none⟩) (es.length + 1) cap) (es.length + 1) (es.flatMap (·.2.1) ++ x.2.1)) (hgrow : w.grownBy w' v.ownBlock) (hat : v.ownBlock = some g ∨ g = w.heap.size) :
  ElsS S L w' (.slice (some ⟨g, 0, none⟩) (es.length + 1) cap) (es ++ [x]) := by
 refine ⟨?_, ?_, fun y hy => ?_⟩
 ·have e : (es ++ [x]).flatMap (·.2.1) = es.flatMap (·.2.1) ++ x.2.1 := by simp
  rw [e, lnA]; exact hown
 ·intro g' e
  have e' : g = g' := Option.some.inj e
  rw [← e']; exact hSg
 ·have hp : PE (fun b => S b ∧ some b ≠ v.ownBlock) w y.1 y.2.1 y.2.2 := by
   rcases List.mem_append.1 hy with hy | hy
   ·exact h.2.2 y hy
   ·rw [List.mem_singleton] at hy; subst hy; exact hx
  refine hp.strong.mono ?_ ?_
  ·intro b hb
   refine ⟨hb.1.1, ?_⟩
   intro e
   have e' : b = g := Option.some.inj e
   rcases hat with hat | hat
   ·exact hb.1.2 (by rw [hat, e'])
   ·have := hb.2; omega
  ·intro b o u hb hu
   rw [World.cell?_of_block (a := ⟨b, o, none⟩) (hgrow.block b (cell_lt hu) hb.1.2)]; exact hu
theorem ElsS.node {S : Nat → Prop} {L : Nat} {w : World} {v : Value} {es : List Ele} (h : ElsS S L w v es) (k a op wd n : Int) (nm : List UInt8) (hk : Shape k op es.length) :
  PE S w k [.int .i64 k, .int .i64 a, .int .i64 op, .int .i64 wd, .int .u64 n, .string (bs nm), v] (nodeTxt k op nm es) := by
 have hl : 0 < es.length := by rcases hk with h | h | h | h | h | h | h <;> omega
 rcases h.1.2 with ⟨_, h0⟩ | ⟨g, cap, cur, hv, hL, hg, hc, _, hsz, htk⟩
 ·omega
 ·have hSg := h.2.1 g (by rw [hv]; rfl)
  subst hv
  refine PE.node k a op wd n nm g cap es hk hSg hc (fun i x hx => (h.2.2 x (List.mem_of_getElem? hx)).mono (fun b hb => hb.1) (fun b o u _ hu => hu)) (fun i x hx j u hu => ?_)
  have h7 : ∀ y ∈ es, y.2.1.length = 7 := fun y hy => (h.2.2 y hy).len
  have hj : j < 7 := by
   have := (List.getElem?_eq_some_iff.1 hu).1
   rw [h7 x (List.mem_of_getElem? hx)] at this; exact this
  have hf := flat_get (fun y : Ele => y.2.1) es h7 i j hj
  rw [hx] at hf
  simp only [Option.bind_some] at hf
  rw [hu, ← htk, List.getElem?_take] at hf
  split at hf
  ·simp only [World.cell?, hg]
   simpa using hf
  ·cases hf
theorem ElsS.form {S : Nat → Prop} {L : Nat} {w : World} {sa : Option Addr} {n cap : Nat} {es : List Ele} (h : ElsS S L w (.slice sa n cap) es) (hn : 1 ≤ es.length) : ∃ g, sa = some ⟨g, 0, none⟩ ∧ n = es.length ∧ L ≤ g ∧ S g ∧ g < w.heap.size := by
 obtain ⟨g, cap', e, h1, h2⟩ := h.1.form hn
 cases e; exact ⟨g, rfl, rfl, h1, h.2.1 g rfl, h2⟩
def LstS (S : Nat → Prop) (L m0 : Nat) (wr : World) (c : Int) (m : Nat) (v : Value) : Prop :=
 c = 0 → ∃ es : List Ele, ElsS S L wr v es ∧ 1 ≤ es.length ∧ es.length + m ≤ m0 ∧ (commaTxt (es.map (fun x : Ele => x.2.2))).length ≤ 64 * (m0 - m)
theorem seven_new1 (w : World) (T : TypeId) (v0 v1 v2 v3 v4 v5 v6 : Value) : ∀ j u, [v0, v1, v2, v3, v4, v5, v6][j]? = some u → (w.alloc (.cells #[v0, v1, v2, v3, v4, v5, v6] T)).cell? ((⟨w.heap.size, 0, none⟩ : Addr).add j) = some u := by
 intro j u hu
 have e : (⟨w.heap.size, 0, none⟩ : Addr).add j = ⟨w.heap.size, j, none⟩ := by
  simp [Addr.add]; intro h; exact h.symm
 rw [e, World.cell?_alloc_new, ← hu]
 rw [List.getElem?_toArray]
theorem grown_box1 {w4 w5 : World} {o1 : Obj} {row : Option Nat} (hg : (w4.alloc o1).grownBy w5 row) {k : Nat} (hk : k < w4.heap.size) (hr : some k ≠ row) : w5.heap[k]? = w4.heap[k]? := by
 rw [hg.block k (by simp; omega) hr, Below.heap_alloc _ _ _ hk]
def CTarget (M : Nat) : Prop := ∀ (br : Nat) (s : ByteArray) (c : Int) (m : Nat) (w : World), Sx br s w c m → meas c m ≤ M → Calls Tryz.prog 56 #[.pointer (some ⟨br, 0, none⟩)] w (ExPost br s c m w)
end Go.Proofs.YtimmmlnememjiaaGreatDoor
