import Derived.Test.YtimmmlnememjiaaGreatDoorX
import Derived.Test.YtimmmlnememjiaaGreatDoorX08
import Derived.Deep.MidRow
set_option maxRecDepth 100000
set_option maxHeartbeats 16000000
namespace Go.Proofs.YtimmmlnememjiaaGreatDoor
open Go.RowKit
def setFrom (w : World) (L : Nat) : Nat → List Value → World
 | _, [] => w
 | o, v :: r => setFrom (w.setCell ⟨L, o, none⟩ v) L (o + 1) r
def arrFrom (cs : Array Value) : Nat → List Value → Array Value
 | _, [] => cs
 | o, v :: r => arrFrom (cs.setIfInBounds o v) (o + 1) r
theorem setFrom_size (w : World) (L o : Nat) (vs : List Value) : (setFrom w L o vs).heap.size = w.heap.size := by
 induction vs generalizing w o with
 | nil => rfl
 | cons v r ih => rw [setFrom, ih]; simp [World.setCell]
theorem setFrom_other {w : World} {L k : Nat} (hk : k ≠ L) (o : Nat) (vs : List Value) : (setFrom w L o vs).heap[k]? = w.heap[k]? := by
 induction vs generalizing w o with
 | nil => rfl
 | cons v r ih => rw [setFrom, ih, Below.heap_setCell _ _ _ _ hk]
theorem setFrom_self {w : World} {L : Nat} {cs : Array Value} {T : TypeId} (h : w.heap[L]? = some (.cells cs T)) (o : Nat) (vs : List Value) : (setFrom w L o vs).heap[L]? = some (.cells (arrFrom cs o vs) T) := by
 induction vs generalizing w o cs with
 | nil => exact h
 | cons v r ih => rw [setFrom, arrFrom]; exact ih (heap_setCell_self h) _
theorem Kq.setFrom {br : Nat} {a w : World} (h : Kq br a w) {L : Nat} (hL : a.heap.size ≤ L) (o : Nat) (vs : List Value) : Kq br a (_root_.Go.Proofs.YtimmmlnememjiaaGreatDoor.setFrom w L o vs) := by
 induction vs generalizing w o with
 | nil => exact h
 | cons v r ih => exact ih (h.setCell (p := ⟨L, o, none⟩) (Or.inr hL) v) _
theorem set_boxN {w1 w2 : World} {b o : Nat} {vs : List Value} {cs : Array Value} {T : TypeId} (h : setFrom w1 b o vs = w2) (hb : w1.heap[b]? = some (.cells cs T)) :
  w2.heap[b]? = some (.cells (arrFrom cs o vs) T) ∧ w2.heap.size = w1.heap.size ∧ (∀ k, k ≠ b → w2.heap[k]? = w1.heap[k]?) ∧ (∀ br a, Kq br a w1 → a.heap.size ≤ b → Hid (Kq br a w2)) ∧ (∀ br s c m, Sx br s w1 c m → br ≠ b → Hid (Sx br s w2 c m)) := by
 subst h
 exact ⟨setFrom_self hb o vs, setFrom_size _ _ _ _, fun k hk => setFrom_other hk _ _, fun br a hk hl => hk.setFrom hl _ _, fun br s c m hx hn => hx.to (setFrom_other hn _ _)⟩
def PRg (S : Nat → Prop) (w : World) (cs : List Value) (t : List UInt8) : Prop :=
 (cs = [.bool false, .int .i64 0, .int .i64 0, .int .i64 0, .int .i64 0, .int .u64 0, .string ⟨#[]⟩, .slice none 0 0, .int .i64 0, .int .i64 0, .int .i64 0, .int .i64 0, .int .u64 0, .string ⟨#[]⟩, .slice none 0 0] ∧ t = []) ∨
 ∃ k1 k2 c1 c2 t1 t2, cs = .bool true :: (c1 ++ c2) ∧ PE S w k1 c1 t1 ∧ PE S w k2 c2 t2 ∧ t = [91] ++ t1 ++ [58] ++ t2 ++ [93, 32]
theorem PRg.mono {S S' : Nat → Prop} {w w' : World} (hS : ∀ b, S b → S' b) (hw : ∀ b o v, S b → w.cell? ⟨b, o, none⟩ = some v → w'.cell? ⟨b, o, none⟩ = some v) {cs : List Value} {t : List UInt8} (h : PRg S w cs t) : PRg S' w' cs t := by
 rcases h with h | ⟨k1, k2, c1, c2, t1, t2, h, p1, p2, ht⟩
 ·exact .inl h
 ·exact .inr ⟨k1, k2, c1, c2, t1, t2, h, p1.mono hS hw, p2.mono hS hw, ht⟩
def RgPost (br : Nat) (s : ByteArray) (c : Int) (m : Nat) (w : World) (e : Ending) (w' : World) : Prop :=
 ∃ (on : Bool) (k1 a1 op1 wd1 n1 : Int) (nm1 : ByteArray) (sa1 : Option Addr) (sl1 sc1 : Nat) (k2 a2 op2 wd2 n2 : Int) (nm2 : ByteArray) (sa2 : Option Addr) (sl2 sc2 : Nat),
  e = .returned (.agg #[.bool on, .int .i64 k1, .int .i64 a1, .int .i64 op1, .int .i64 wd1, .int .u64 n1, .string nm1, .slice sa1 sl1 sc1, .int .i64 k2, .int .i64 a2, .int .i64 op2, .int .i64 wd2, .int .u64 n2, .string nm2, .slice sa2 sl2 sc2]) ∧ Kq br w w' ∧
  ∃ (c' : Int) (m' : Nat), Sx br s w' c' m' ∧ m' ≤ m ∧ (c' = 0 → c = 0) ∧
   (c' = 0 → ∃ t, PRg (fun b => w.heap.size ≤ b) w' [.bool on, .int .i64 k1, .int .i64 a1, .int .i64 op1, .int .i64 wd1, .int .u64 n1, .string nm1, .slice sa1 sl1 sc1, .int .i64 k2, .int .i64 a2, .int .i64 op2, .int .i64 wd2, .int .u64 n2, .string nm2, .slice sa2 sl2 sc2] t ∧ t.length ≤ 64 * (m - m'))
theorem bxN {W : World} {b : Nat} {cs : Array Value} {T : TypeId} (h : W.heap[b]? = some (.cells cs T)) : (∀ o, W.cell? ⟨b, o, none⟩ = cs[o]?) ∧ (∀ o, W.frozen? ⟨b, o, none⟩ = false) ∧ b < W.heap.size := by
 have hl : b < W.heap.size := by
  rcases Nat.lt_or_ge b W.heap.size with h1 | h1
  ·exact h1
  ·rw [Array.getElem?_eq_none h1] at h; cases h
 exact ⟨fun o => by simp [World.cell?, h], fun o => by simp [World.frozen?, h], hl⟩
theorem rg_close {br : Nat} {s : ByteArray} {c : Int} {m : Nat} {w w2 : World} {on : Bool} {k1 a1 op1 wd1 n1 : Int} {nm1 : ByteArray} {sa1 : Option Addr} {sl1 sc1 : Nat} {k2 a2 op2 wd2 n2 : Int} {nm2 : ByteArray} {sa2 : Option Addr} {sl2 sc2 : Nat} {c' : Int} {m' : Nat} (hbr : br < w.heap.size) (K : Kq br w w2) (X : Sx br s w2 c' m') (hm : m' ≤ m) (hc0 : c' = 0 → c = 0)
  (hP : c' = 0 → ∃ t, PRg (fun b => w.heap.size + 1 ≤ b) w2 [.bool on, .int .i64 k1, .int .i64 a1, .int .i64 op1, .int .i64 wd1, .int .u64 n1, .string nm1, .slice sa1 sl1 sc1, .int .i64 k2, .int .i64 a2, .int .i64 op2, .int .i64 wd2, .int .u64 n2, .string nm2, .slice sa2 sl2 sc2] t ∧ t.length ≤ 64 * (m - m')) :
  RgPost br s c m w (.returned (.agg #[.bool on, .int .i64 k1, .int .i64 a1, .int .i64 op1, .int .i64 wd1, .int .u64 n1, .string nm1, .slice sa1 sl1 sc1, .int .i64 k2, .int .i64 a2, .int .i64 op2, .int .i64 wd2, .int .u64 n2, .string nm2, .slice sa2 sl2 sc2])) (setFrom w2 w.heap.size 0 [.bool on, .int .i64 k1, .int .i64 a1, .int .i64 op1, .int .i64 wd1, .int .u64 n1, .string nm1, .slice sa1 sl1 sc1, .int .i64 k2, .int .i64 a2, .int .i64 op2, .int .i64 wd2, .int .u64 n2, .string nm2, .slice sa2 sl2 sc2]) := by
 refine ⟨on, k1, a1, op1, wd1, n1, nm1, sa1, sl1, sc1, k2, a2, op2, wd2, n2, nm2, sa2, sl2, sc2, rfl, K.setFrom (Nat.le_refl _) _ _, c', m', X.to (setFrom_other (by omega) _ _), hm, hc0, fun hc => ?_⟩
 obtain ⟨t, hp, hl⟩ := hP hc
 refine ⟨t, hp.mono ?_ ?_, hl⟩
 ·intro b hb
  have h2 : w.heap.size + 1 ≤ b := hb
  show w.heap.size ≤ b
  omega
 ·intro b o u hb hu
  have h2 : w.heap.size + 1 ≤ b := hb
  have hne : b ≠ w.heap.size := by omega
  rw [World.cell?_of_block (a := ⟨b, o, none⟩) (setFrom_other hne _ _)]; exact hu
theorem span_any (br : Nat) (s : ByteArray) (c : Int) (m : Nat) (w : World) (h : Sx br s w c m) :
  Calls Tryz.prog 40 #[.pointer (some ⟨br, 0, none⟩)] w (RgPost br s c m w) := by
 have HX := hI h
 have hlt := h.lt
 clear h
 go_enter Tryz.func40, Tryz.ntmps40
 go_wp2_with fail
 generalize hW : w.alloc (.cells _ 60) = W
 obtain ⟨hz, r0, o0, kW⟩ := one_box hW
 have KW := kW br
 have SW : Hid (Sx br s W c m) := HX.out.to (o0 br hlt)
 have R0 := hI r0
 clear hW kW o0 r0
 refine (accept_any SW.out _).mono ?_
 rintro e w3 ⟨bo, rfl, hk3, hh⟩
 have HH := hI hh
 have K3 : Hid (Kq br W w3) := hk3
 clear hh hk3
 cases bo
 case false =>
  rcases HH.out with ⟨h1, _⟩ | ⟨_, h1⟩
  ·cases h1
  ·subst h1
   obtain ⟨qc, qf, ql⟩ := bxN R0.out
   clear HH K3
   go_wp2_with fail
   exact bodyPost_ret (v := .agg #[.bool false, .int .i64 0, .int .i64 0, .int .i64 0, .int .i64 0, .int .u64 0, .string ⟨#[]⟩, .slice none 0 0, .int .i64 0, .int .i64 0, .int .i64 0, .int .i64 0, .int .u64 0, .string ⟨#[]⟩, .slice none 0 0]) (by simp [results, Tryz.results40, go_sem, *]) rfl (rg_close hlt KW.out SW.out (Nat.le_refl _) (fun h => h) fun _ => ⟨[], Or.inl ⟨rfl, rfl⟩, by simp⟩)
 case true =>
  rcases HH.out with ⟨_, hc0, m3, hm3, hx3⟩ | ⟨h1, _⟩
  ·subst hc0
   have X3 := hI hx3
   have r3 := hI ((K3.out.block w.heap.size (by omega) (by omega)).trans R0.out)
   have z3 : w.heap.size + 1 ≤ w3.heap.size := by have := K3.out.size; omega
   have K3' : Hid (Kq br w w3) := KW.out.trans K3.out
   clear hx3 HH K3 R0 SW KW
   go_wp2_with fail
   generalize hW4 : w3.alloc (.cells _ 60) = w4
   obtain ⟨z4, b4, o4, k34⟩ := one_box hW4
   have K34 := k34 br
   have X4 : Hid (Sx br s w4 0 m3) := X3.out.to (o4 br (by omega))
   have r4 := hI ((o4 w.heap.size (by omega)).trans r3.out)
   have B4 := hI b4
   clear hW4 k34 o4 r3 b4
   refine (expr_read X4.out).mono ?_
   rintro e w5 ⟨k1, a1, op1, wd1, n1, nm1, sa1, sl1, sc1, rfl, hk5, c5, m5, hx5, ha5, hp5⟩
   have r5 := hI ((hk5.block w.heap.size (by omega) (by omega)).trans r4.out)
   have b5 := (hk5.block w3.heap.size (by omega) (by omega)).trans B4.out
   have B5 := hI b5
   have z5 : w3.heap.size + 1 ≤ w5.heap.size := by have := hk5.size; omega
   have K5 : Hid (Kq br w w5) := (K3'.out.trans K34.out).trans hk5
   have X5 := hI hx5
   have A5 := hI ha5
   have P5 := hI hp5
   clear hk5 hx5 ha5 hp5 r4 B4 K3' K34 X3 X4
   obtain ⟨pc, pf, pl⟩ := bxN b5
   clear b5
   go_wp2_with fail
   generalize hS : (((((((w5.setCell ⟨w3.heap.size, 1, none⟩ (.int .i64 k1)).setCell ⟨w3.heap.size, 2, none⟩ (.int .i64 a1)).setCell ⟨w3.heap.size, 3, none⟩ (.int .i64 op1)).setCell ⟨w3.heap.size, 4, none⟩ (.int .i64 wd1)).setCell ⟨w3.heap.size, 5, none⟩ (.int .u64 n1)).setCell ⟨w3.heap.size, 6, none⟩ (.string nm1)).setCell ⟨w3.heap.size, 7, none⟩ (.slice sa1 sl1 sc1)) = w6
   have hS' : setFrom w5 w3.heap.size 1 [.int .i64 k1, .int .i64 a1, .int .i64 op1, .int .i64 wd1, .int .u64 n1, .string nm1, .slice sa1 sl1 sc1] = w6 := hS
   obtain ⟨b6, z6, o6, k6, x6⟩ := set_boxN hS' B5.out
   have K6 := k6 br w K5.out (by omega)
   have X6 := x6 br s c5 m5 X5.out (by omega)
   have r6 := hI ((o6 w.heap.size (by omega)).trans r5.out)
   have O6 := hI o6
   have B6 : Hid (w6.heap[w3.heap.size]? = some (.cells #[.bool true, .int .i64 k1, .int .i64 a1, .int .i64 op1, .int .i64 wd1, .int .u64 n1, .string nm1, .slice sa1 sl1 sc1, .int .i64 0, .int .i64 0, .int .i64 0, .int .i64 0, .int .u64 0, .string ⟨#[]⟩, .slice none 0 0] 60)) := b6
   clear hS hS' k6 x6 o6 b6 pc pf pl r5 B5 K5 X5
   refine (must_any X6.out _).mono ?_
   rintro e w7 ⟨rfl, hk7, c7, m7, hx7, ha7⟩
   have r7 := hI ((hk7.block w.heap.size (by omega) (by omega)).trans r6.out)
   have B7 := hI ((hk7.block w3.heap.size (by omega) (by omega)).trans B6.out)
   have z7 : w5.heap.size ≤ w7.heap.size := by have := hk7.size; omega
   have K7 : Hid (Kq br w w7) := K6.out.trans hk7
   have K67 := hI hk7
   have X7 := hI hx7
   have A7 := hI ha7
   clear hk7 hx7 ha7 r6 B6 K6 X6
   go_wp2_with fail
   refine (expr_read X7.out).mono ?_
   rintro e w8 ⟨k2, a2, op2, wd2, n2, nm2, sa2, sl2, sc2, rfl, hk8, c8, m8, hx8, ha8, hp8⟩
   have r8 := hI ((hk8.block w.heap.size (by omega) (by omega)).trans r7.out)
   have b8 := (hk8.block w3.heap.size (by omega) (by omega)).trans B7.out
   have B8 := hI b8
   have z8 : w7.heap.size ≤ w8.heap.size := hk8.size
   have K8 : Hid (Kq br w w8) := K7.out.trans hk8
   have K68 : Hid (Kq br w6 w8) := K67.out.trans hk8
   have X8 := hI hx8
   have A8 := hI ha8
   have P8 := hI hp8
   clear hk8 hx8 ha8 hp8 r7 B7 K7 X7 K67
   obtain ⟨pc, pf, pl⟩ := bxN b8
   clear b8
   go_wp2_with fail
   generalize hS : (((((((w8.setCell ⟨w3.heap.size, 8, none⟩ (.int .i64 k2)).setCell ⟨w3.heap.size, 9, none⟩ (.int .i64 a2)).setCell ⟨w3.heap.size, 10, none⟩ (.int .i64 op2)).setCell ⟨w3.heap.size, 11, none⟩ (.int .i64 wd2)).setCell ⟨w3.heap.size, 12, none⟩ (.int .u64 n2)).setCell ⟨w3.heap.size, 13, none⟩ (.string nm2)).setCell ⟨w3.heap.size, 14, none⟩ (.slice sa2 sl2 sc2)) = w9
   have hS' : setFrom w8 w3.heap.size 8 [.int .i64 k2, .int .i64 a2, .int .i64 op2, .int .i64 wd2, .int .u64 n2, .string nm2, .slice sa2 sl2 sc2] = w9 := hS
   obtain ⟨b9, z9, o9, k9, x9⟩ := set_boxN hS' B8.out
   have K9 := k9 br w K8.out (by omega)
   have X9 := x9 br s c8 m8 X8.out (by omega)
   have r9 := hI ((o9 w.heap.size (by omega)).trans r8.out)
   have O9 := hI o9
   have B9 : Hid (w9.heap[w3.heap.size]? = some (.cells #[.bool true, .int .i64 k1, .int .i64 a1, .int .i64 op1, .int .i64 wd1, .int .u64 n1, .string nm1, .slice sa1 sl1 sc1, .int .i64 k2, .int .i64 a2, .int .i64 op2, .int .i64 wd2, .int .u64 n2, .string nm2, .slice sa2 sl2 sc2] 60)) := b9
   clear hS hS' k9 x9 o9 b9 pc pf pl r8 B8 K8 X8
   refine (must_any X9.out _).mono ?_
   rintro e w10 ⟨rfl, hk10, c10, m10, hx10, ha10⟩
   have r10 := (hk10.block w.heap.size (by omega) (by omega)).trans r9.out
   have b10 := (hk10.block w3.heap.size (by omega) (by omega)).trans B9.out
   have K10 : Hid (Kq br w w10) := K9.out.trans hk10
   have K910 := hI hk10
   have X10 := hI hx10
   have A10 := hI ha10
   clear hk10 hx10 ha10 r9 B9 K9 X9
   obtain ⟨pc, pf, pl⟩ := bxN b10
   obtain ⟨qc, qf, ql⟩ := bxN r10
   clear b10 r10
   go_wp2_with fail
   refine bodyPost_ret (v := .agg #[.bool true, .int .i64 k1, .int .i64 a1, .int .i64 op1, .int .i64 wd1, .int .u64 n1, .string nm1, .slice sa1 sl1 sc1, .int .i64 k2, .int .i64 a2, .int .i64 op2, .int .i64 wd2, .int .u64 n2, .string nm2, .slice sa2 sl2 sc2]) (by simp [results, Tryz.results40, go_sem, *]) rfl (rg_close hlt K10.out X10.out (by have := A5.out.1; have := A7.out.1; have := A8.out.1; have := A10.out.1; omega) (fun _ => rfl) fun hc => ?_)
   obtain ⟨hc8, hm10⟩ := A10.out.2 hc
   obtain ⟨hc7, hm8⟩ := A8.out.2 hc8
   obtain ⟨hc5, hm7⟩ := A7.out.2 hc7
   obtain ⟨_, hm5⟩ := A5.out.2 hc5
   obtain ⟨t1, hp1, hl1⟩ := P5.out hc5
   obtain ⟨t2, hp2, hl2⟩ := P8.out hc8
   have h1 : PE (fun b => w3.heap.size + 1 ≤ b) w10 k1 [.int .i64 k1, .int .i64 a1, .int .i64 op1, .int .i64 wd1, .int .u64 n1, .string nm1, .slice sa1 sl1 sc1] t1 := by
    refine hp1.mono ?_ ?_
    ·intro b hb
     have h2 : w4.heap.size ≤ b := hb
     show w3.heap.size + 1 ≤ b
     omega
    ·intro b o u hb hu
     have h2 : w4.heap.size ≤ b := hb
     have hl := cell_lt hu
     rw [World.cell?_of_block (a := ⟨b, o, none⟩) ((K910.out.block b (by omega) (by omega)).trans ((O9.out b (by omega)).trans ((K68.out.block b (by omega) (by omega)).trans (O6.out b (by omega)))))]; exact hu
   have h2 : PE (fun b => w3.heap.size + 1 ≤ b) w10 k2 [.int .i64 k2, .int .i64 a2, .int .i64 op2, .int .i64 wd2, .int .u64 n2, .string nm2, .slice sa2 sl2 sc2] t2 := by
    refine hp2.mono ?_ ?_
    ·intro b hb
     have h2 : w7.heap.size ≤ b := hb
     show w3.heap.size + 1 ≤ b
     omega
    ·intro b o u hb hu
     have h2 : w7.heap.size ≤ b := hb
     have hl := cell_lt hu
     rw [World.cell?_of_block (a := ⟨b, o, none⟩) ((K910.out.block b (by omega) (by omega)).trans (O9.out b (by omega)))]; exact hu
   refine ⟨_, Or.inr ⟨k1, k2, [.int .i64 k1, .int .i64 a1, .int .i64 op1, .int .i64 wd1, .int .u64 n1, .string nm1, .slice sa1 sl1 sc1], [.int .i64 k2, .int .i64 a2, .int .i64 op2, .int .i64 wd2, .int .u64 n2, .string nm2, .slice sa2 sl2 sc2], t1, t2, rfl, pe_le h1 (by omega), pe_le h2 (by omega), rfl⟩, ?_⟩
   simp only [lnA, lnC, lnN]
   omega
  ·cases h1
def Has (cs : Array Value) (o : Nat) (vs : List Value) : Prop := ∀ j v, vs[j]? = some v → cs[o + j]? = some v
theorem Has.head {cs : Array Value} {o : Nat} {v : Value} {r : List Value} (h : Has cs o (v :: r)) : cs[o]? = some v := h 0 v rfl
theorem Has.one {cs : Array Value} {o : Nat} {v : Value} (h : cs[o]? = some v) : Has cs o [v] := fun j u hu => by
 cases j with
 | zero => simp at hu; subst hu; exact h
 | succ j => simp at hu
theorem has_of {cs : Array Value} {o : Nat} {vs : List Value} (h : (cs.toList.drop o).take vs.length = vs) : Has cs o vs := fun j v hv => by
 rw [← h, List.getElem?_take] at hv
 split at hv
 ·rw [List.getElem?_drop] at hv
  simpa using hv
 ·cases hv
theorem Has.sub {cs : Array Value} {o : Nat} {us vs : List Value} (h : Has cs o (us ++ vs)) : Has cs o us ∧ Has cs (o + us.length) vs := by
 refine ⟨fun j v hv => h j v ?_, fun j v hv => ?_⟩
 ·rw [List.getElem?_append_left (List.getElem?_eq_some_iff.1 hv).1]; exact hv
 ·have := h (us.length + j) v (by rw [List.getElem?_append_right (by omega), Nat.add_sub_cancel_left]; exact hv)
  rw [← Nat.add_assoc] at this; exact this
theorem arrFrom_size (cs : Array Value) (o : Nat) (vs : List Value) : (arrFrom cs o vs).size = cs.size := by
 induction vs generalizing cs o with
 | nil => rfl
 | cons v r ih => rw [arrFrom, ih]; simp
theorem arrFrom_out (cs : Array Value) (o : Nat) (vs : List Value) (i : Nat) (h : i < o ∨ o + vs.length ≤ i) : (arrFrom cs o vs)[i]? = cs[i]? := by
 induction vs generalizing cs o with
 | nil => rfl
 | cons v r ih =>
  rw [arrFrom, ih]
  ·rw [Array.getElem?_setIfInBounds_ne]; simp at h; omega
  ·simp at h; omega
theorem arrFrom_in (cs : Array Value) (o : Nat) (vs : List Value) (h : o + vs.length ≤ cs.size) : Has (arrFrom cs o vs) o vs := by
 induction vs generalizing cs o with
 | nil => intro j v hv; simp at hv
 | cons u r ih =>
  intro j v hv
  rw [arrFrom]
  cases j with
  | zero =>
   simp at hv; subst hv
   rw [arrFrom_out _ _ _ _ (by omega)]
   have hlt : o < cs.size := by simp at h; omega
   simp [hlt]
  | succ j =>
   have := ih (cs.setIfInBounds o u) (o + 1) (by simp at h ⊢; omega) j v (by simpa using hv)
   rw [← this]; congr 1; omega
theorem arrFrom_one {cs : Array Value} (h : ∀ v ∈ cs.toList, v.oneCell' = true) (o : Nat) {vs : List Value} (hv : ∀ v ∈ vs, v.oneCell' = true) : ∀ v ∈ (arrFrom cs o vs).toList, v.oneCell' = true := by
 induction vs generalizing cs o with
 | nil => exact h
 | cons u r ih =>
  rw [arrFrom]
  refine ih ?_ (o + 1) (fun v h => hv v (by simp [h]))
  intro v hm
  rw [Array.toList_setIfInBounds] at hm
  rcases List.mem_or_eq_of_mem_set hm with h1 | h1
  ·exact h v h1
  ·rw [h1]; exact hv u (by simp)
structure Lb (w : World) (b n : Nat) (T : TypeId) (cs : Array Value) : Prop where
 heap : w.heap[b]? = some (.cells cs T)
 size : cs.size = n
 one : ∀ v ∈ cs.toList, v.oneCell' = true
theorem Lb.lt {w : World} {b n : Nat} {T : TypeId} {cs : Array Value} (h : Lb w b n T cs) : b < w.heap.size := (bxN h.heap).2.2
theorem Lb.to {w w' : World} {b n : Nat} {T : TypeId} {cs : Array Value} (h : Lb w b n T cs) (e : w'.heap[b]? = w.heap[b]?) : Lb w' b n T cs := ⟨e.trans h.heap, h.size, h.one⟩
theorem Lb.all {w : World} {b n : Nat} {T : TypeId} {cs : Array Value} (h : Lb w b n T cs) : cs.all (·.oneCell') = true := by
 rw [Array.all_eq_true_iff_forall_mem]
 intro v hv; exact h.one v (by simpa using hv)
theorem Lb.there {w : World} {b n : Nat} {T : TypeId} {cs : Array Value} (h : Lb w b n T cs) (o k : Nat) (hk : o + k ≤ n) : w.there b o k := fun j hj => by
 obtain ⟨h1, h2, _⟩ := bxN h.heap
 refine ⟨?_, h2 _⟩
 rw [h1, Array.getElem?_eq_getElem (by rw [h.size]; omega)]; rfl
theorem Lb.range {w : World} {b n : Nat} {T : TypeId} {cs : Array Value} (h : Lb w b n T cs) {o : Nat} {vs : List Value} (hv : Has cs o vs) : w.rangeAt b o vs := fun j v hj => by
 rw [(bxN h.heap).1]; exact hv j v hj
theorem Lb.whole {w : World} {b n : Nat} {T : TypeId} {cs : Array Value} (h : Lb w b n T cs) : w.rangeAt b 0 cs.toList := fun j v hj => by
 rw [(bxN h.heap).1, Nat.zero_add]; simpa using hj
theorem Lb.cell {w : World} {b n : Nat} {T : TypeId} {cs : Array Value} (h : Lb w b n T cs) {o : Nat} {v : Value} (hv : cs[o]? = some v) : w.cell? ⟨b, o, none⟩ = some v ∧ w.frozen? ⟨b, o, none⟩ = false := by
 obtain ⟨h1, h2, _⟩ := bxN h.heap
 exact ⟨(h1 o).trans hv, h2 o⟩
theorem setCells_from (w : World) (b o : Nat) (vs : List Value) : w.setCells b o vs = setFrom w b o vs := by
 induction vs generalizing w o with
 | nil => rfl
 | cons v r ih => rw [World.setCells, setFrom, ih]
theorem lb_set {w1 w2 : World} {b n o : Nat} {vs : List Value} {T : TypeId} {cs : Array Value} (h : setFrom w1 b o vs = w2) (L : Lb w1 b n T cs) (ho : o + vs.length ≤ n) (h1 : ∀ v ∈ vs, v.oneCell' = true) :
  ∃ cs2, Lb w2 b n T cs2 ∧ Has cs2 o vs ∧ (∀ o' us, Has cs o' us → (o' + us.length ≤ o ∨ o + vs.length ≤ o') → Has cs2 o' us) ∧
   w2.heap.size = w1.heap.size ∧ (∀ k, k ≠ b → w2.heap[k]? = w1.heap[k]?) ∧ (∀ br a, Kq br a w1 → a.heap.size ≤ b → Hid (Kq br a w2)) ∧ (∀ br s c m, Sx br s w1 c m → br ≠ b → Hid (Sx br s w2 c m)) := by
 obtain ⟨bb, zz, oo, kk, xx⟩ := set_boxN h L.heap
 refine ⟨arrFrom cs o vs, ⟨bb, (arrFrom_size _ _ _).trans L.size, arrFrom_one L.one o h1⟩, arrFrom_in _ _ _ (by rw [L.size]; exact ho), ?_, zz, oo, kk, xx⟩
 intro o' us hu hd j v hv
 have hj := (List.getElem?_eq_some_iff.1 hv).1
 rw [arrFrom_out _ _ _ _ (by omega)]; exact hu j v hv
theorem lb_new {w W : World} {n : Nat} {T : TypeId} {cs : Array Value} (h : w.alloc (.cells cs T) = W) (hn : cs.size = n) (h1 : ∀ v ∈ cs.toList, v.oneCell' = true) : Lb W w.heap.size n T cs := by
 subst h; exact ⟨heap_alloc_self _ _, hn, h1⟩
theorem zero95_size : Tryz.zeroCells95.size = 65 := by kernel_rfl
theorem zero95_one : Tryz.zeroCells95.toList.all (·.oneCell') = true := by kernel_rfl
theorem zero95_one' : ∀ v ∈ Tryz.zeroCells95.toList, v.oneCell' = true := fun v h => (List.all_eq_true.1 zero95_one) v h
theorem info95 : (Tryz.prog.info? 95).map (·.size) = some 65 := by kernel_rfl
theorem info60s : (Tryz.prog.info? 60).map (·.size) = some 15 := by kernel_rfl
theorem info62s : (Tryz.prog.info? 62).map (·.size) = some 19 := by kernel_rfl
theorem info57s : (Tryz.prog.info? 57).map (·.size) = some 10 := by kernel_rfl
theorem info55s : (Tryz.prog.info? 55).map (·.size) = some 7 := by kernel_rfl
theorem info93s : (Tryz.prog.info? 93).map (·.size) = some 7 := by kernel_rfl
theorem fold_all (l : List Value) (k : Nat) (z : Array Value) (h : k + l.length ≤ z.size) : ((l.zipIdx k).foldl (fun a (x : Value × Nat) => a.setIfInBounds (0 + x.2) x.1) z) = arrFrom z k l := by
 induction l generalizing k z with
 | nil => rfl
 | cons v r ih =>
  rw [List.zipIdx_cons, List.foldl_cons, arrFrom, ih]
  ·simp
  ·simp at h ⊢; omega
theorem arrFrom_full (z cs : Array Value) (h : z.size = cs.size) : arrFrom z 0 cs.toList = cs := by
 apply Array.ext
 ·rw [arrFrom_size, h]
 ·intro i h1 h2
  have := arrFrom_in z 0 cs.toList (by simp [h]) i cs[i] (by simp)
  rw [Nat.zero_add, Array.getElem?_eq_getElem h1] at this
  exact Option.some.inj this
variable {P : Program}
theorem run_build_one (w : World) (t e : TypeId) (cs : Array Value) (n : Nat) (ht : P.underlying t = some (.slice e)) (i : TypeInfo) (hi : P.info? e = some i) (z : Array Value) (hz : i.zero = some (.agg z)) (hsize : i.size = n) (hcs : cs.size = n) (hn : 0 < n) (hn2 : n ≤ 1000) :
  (Instr.buildSlice t 1 #[(0, .agg cs)]).run P w = .ok (.slice (some ⟨w.heap.size, 0, none⟩) 1 1) (w.alloc (.cells cs e)) := by
 have hlim : ¬ (1 * n > 2 ^ 24) := by omega
 have hne : ¬ (1 * n = 0) := by omega
 have hfill : Instr.fill (fun i => some (i * n, n)) ((Array.range (1 * n)).map (z[· % z.size]!)) [(0, .agg cs)] = some cs := by
  unfold Instr.fill
  have hb : (((Value.agg cs).cells.size ≠ n || 0 * n + (Value.agg cs).cells.size > ((Array.range (1 * n)).map (z[· % z.size]!)).size) : Bool) = false := by
   simp [Value.cells, hcs]
  simp only [Nat.zero_mul] at hb ⊢
  rw [if_neg (by simpa using hb)]
  unfold Instr.fill
  congr 1
  have h1 := fold_all cs.toList 0 ((Array.range (1 * n)).map (z[· % z.size]!)) (by simp [hcs])
  rw [arrFrom_full _ _ (by simp [hcs])] at h1
  refine Eq.trans ?_ h1
  rw [← Array.foldl_toList]
  simp [Value.cells]
 simp [Instr.buildSlice, Sem.run_bind, run_underlying ht, sizeOf, typeInfo, hi, hsize, zeroValue, hz, Value.cells, newRow]
 rw [if_neg (by omega), if_neg (by omega)]
 rw [Nat.one_mul] at hfill
 rw [hfill]
 simp
theorem wpList_build_one {ops : Array Oper} {rest : List Oper} {op : Oper} {a : Act} {w : World} {Q : Exit → Act → World → Prop} (hgd : op.guard = none) (t : TypeId) (x : Operand) (ho : op.op = .buildSlice t 1 #[(0, x)]) (e : TypeId) (cs : Array Value) (n : Nat) (hx : a.eval x = .agg cs)
  (ht : P.underlying t = some (.slice e)) (i : TypeInfo) (hi : P.info? e = some i) (z : Array Value) (hz : i.zero = some (.agg z)) (hsize : i.size = n) (hcs : cs.size = n) (hn : 0 < n) (hn2 : n ≤ 1000)
  (h : wpList P ops Q rest (a.put op.dst (.slice (some ⟨w.heap.size, 0, none⟩) 1 1)) (w.alloc (.cells cs e))) : wpList P ops Q (op :: rest) a w := by
 refine wpList_plain hgd fun _ hK => ?_
 have hr := run_build_one w t e cs n ht i hi z hz hsize hcs hn hn2
 unfold Oper.wp execOp
 simp [ho, hx, hr]
 exact hK _ _ h
theorem info57 : (Tryz.prog.info? 57).map (fun i => (i.zero, i.size, i.bytes)) = some (some (.agg #[.string ⟨#[]⟩, .int .i64 0, .bool false, .int .i64 0, .int .i64 0, .int .i64 0, .int .i64 0, .int .u64 0, .string ⟨#[]⟩, .slice none 0 0]), 10, 112) := by kernel_rfl
theorem info57' : ∃ i, Tryz.prog.info? 57 = some i ∧ i.zero = some (.agg #[.string ⟨#[]⟩, .int .i64 0, .bool false, .int .i64 0, .int .i64 0, .int .i64 0, .int .i64 0, .int .u64 0, .string ⟨#[]⟩, .slice none 0 0]) ∧ i.size = 10 ∧ i.bytes = 112 := by
 have h := info57
 cases hi : Tryz.prog.info? 57 with
 | none => rw [hi] at h; cases h
 | some i => rw [hi] at h; simp at h; exact ⟨i, rfl, h.1, h.2.1, h.2.2⟩
theorem info62 : (Tryz.prog.info? 62).map (fun i => (i.zero, i.size, i.bytes)) = some (some (.agg #[.string ⟨#[]⟩, .int .i64 0, .bool false, .bool false, .bool false, .int .i64 0, .int .i64 0, .int .i64 0, .int .i64 0, .int .u64 0, .string ⟨#[]⟩, .slice none 0 0, .int .i64 0, .int .i64 0, .int .i64 0, .int .i64 0, .int .u64 0, .string ⟨#[]⟩, .slice none 0 0]), 19, 200) := by kernel_rfl
theorem info62' : ∃ i, Tryz.prog.info? 62 = some i ∧ i.zero = some (.agg #[.string ⟨#[]⟩, .int .i64 0, .bool false, .bool false, .bool false, .int .i64 0, .int .i64 0, .int .i64 0, .int .i64 0, .int .u64 0, .string ⟨#[]⟩, .slice none 0 0, .int .i64 0, .int .i64 0, .int .i64 0, .int .i64 0, .int .u64 0, .string ⟨#[]⟩, .slice none 0 0]) ∧ i.size = 19 ∧ i.bytes = 200 := by
 have h := info62
 cases hi : Tryz.prog.info? 62 with
 | none => rw [hi] at h; cases h
 | some i => rw [hi] at h; simp at h; exact ⟨i, rfl, h.1, h.2.1, h.2.2⟩
theorem info40 : (Tryz.prog.info? 40).map (fun i => (i.zero, i.size, i.bytes)) = some (some (.agg #[.string ⟨#[]⟩, .int .i64 0, .slice none 0 0, .slice none 0 0, .slice none 0 0]), 5, 96) := by kernel_rfl
theorem info40' : ∃ i, Tryz.prog.info? 40 = some i ∧ i.zero = some (.agg #[.string ⟨#[]⟩, .int .i64 0, .slice none 0 0, .slice none 0 0, .slice none 0 0]) ∧ i.size = 5 ∧ i.bytes = 96 := by
 have h := info40
 cases hi : Tryz.prog.info? 40 with
 | none => rw [hi] at h; cases h
 | some i => rw [hi] at h; simp at h; exact ⟨i, rfl, h.1, h.2.1, h.2.2⟩
theorem info95x : (Tryz.prog.info? 95).map (fun i => (i.zero, i.size, i.bytes)) = some (some (.agg Tryz.zeroCells95), 65, 832) := by kernel_rfl
theorem info95' : ∃ i, Tryz.prog.info? 95 = some i ∧ i.zero = some (.agg Tryz.zeroCells95) ∧ i.size = 65 ∧ i.bytes = 832 := by
 have h := info95x
 cases hi : Tryz.prog.info? 95 with
 | none => rw [hi] at h; cases h
 | some i => rw [hi] at h; simp at h; exact ⟨i, rfl, h.1, h.2.1, h.2.2⟩
theorem lb_copy {w1 w2 : World} {r n : Nat} {T : TypeId} {cs c0 : Array Value} (h : setFrom w1 r 0 cs.toList = w2) (L : Lb w1 r n T c0) (hc : cs.size = n) :
  w2.heap[r]? = some (.cells cs T) ∧ w2.heap.size = w1.heap.size ∧ (∀ k, k ≠ r → w2.heap[k]? = w1.heap[k]?) ∧ (∀ br a, Kq br a w1 → a.heap.size ≤ r → Kq br a w2) ∧ (∀ br s c m, Sx br s w1 c m → br ≠ r → Sx br s w2 c m) := by
 obtain ⟨bb, zz, oo, kk, xx⟩ := set_boxN h L.heap
 rw [arrFrom_full _ _ (by rw [L.size, hc])] at bb
 exact ⟨bb, zz, oo, kk, xx⟩
theorem Lb.some {w : World} {b n : Nat} {T : TypeId} {cs : Array Value} (h : Lb w b n T cs) (o : Nat) (ho : o < n) : ∃ v, cs[o]? = some v := ⟨_, Array.getElem?_eq_getElem (by rw [h.size]; exact ho)⟩
theorem Lb.via {w w' : World} {b n : Nat} {T : TypeId} {cs : Array Value} (h : Lb w b n T cs) (f : w.heap[b]? = .some (.cells cs T) → w'.heap[b]? = .some (.cells cs T)) : Lb w' b n T cs := ⟨f h.heap, h.size, h.one⟩
theorem Has.app {cs : Array Value} {o : Nat} {us vs : List Value} (h1 : Has cs o us) (h2 : Has cs (o + us.length) vs) : Has cs o (us ++ vs) := fun j v hv => by
 rcases Nat.lt_or_ge j us.length with h | h
 ·rw [List.getElem?_append_left h] at hv; exact h1 j v hv
 ·rw [List.getElem?_append_right h] at hv
  have := h2 (j - us.length) v hv
  rw [← this]; congr 1; omega
theorem Has.eq {cs : Array Value} {l : List Value} (h : Has cs 0 l) (hl : l.length = cs.size) : cs.toList = l := by
 apply List.ext_getElem?
 intro i
 rcases Nat.lt_or_ge i l.length with h1 | h1
 ·have := h i l[i] (List.getElem?_eq_getElem h1)
  rw [Nat.zero_add] at this
  rw [Array.getElem?_toList, this, List.getElem?_eq_getElem h1]
 ·rw [List.getElem?_eq_none (by rw [Array.length_toList]; omega), List.getElem?_eq_none h1]
end Go.Proofs.YtimmmlnememjiaaGreatDoor
