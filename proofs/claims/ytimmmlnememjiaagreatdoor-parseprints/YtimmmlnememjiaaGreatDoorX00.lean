import Derived.Test.YtimmmlnememjiaaGreatDoorX
import Derived.Test.YtimmmlnememjiaaGreatDoorRows
import Derived.WalkKit
import Derived.WalkSpells
import Derived.WalkLawsBesides
import Derived.RegionTactic
import Derived.ChangeAlike
import Derived.BigRegion
import Derived.Deep.RegionWith
import Derived.Lib.ItoaNum
set_option maxRecDepth 100000
set_option maxHeartbeats 16000000
namespace Go.Proofs.YtimmmlnememjiaaGreatDoor
open Go.RowKit
structure Kq (br : Nat) (w w' : World) : Prop where
 os : w'.os = w.os
 tape : w'.tape = w.tape
 output : w'.output = w.output
 size : w.heap.size ≤ w'.heap.size
 block : ∀ k, k < w.heap.size → k ≠ br → w'.heap[k]? = w.heap[k]?
theorem Kq.refl (br : Nat) (w : World) : Kq br w w := ⟨rfl, rfl, rfl, Nat.le_refl _, fun _ _ _ => rfl⟩
theorem Kq.trans {br : Nat} {a b c : World} (h : Kq br a b) (k : Kq br b c) : Kq br a c :=
 ⟨k.os.trans h.os, k.tape.trans h.tape, k.output.trans h.output, Nat.le_trans h.size k.size, fun i hi hn => (k.block i (Nat.lt_of_lt_of_le hi h.size) hn).trans (h.block i hi hn)⟩
theorem Kq.drew {br : Nat} {a w : World} (h : Kq br a w) : Kq br a w.drew := ⟨h.os, h.tape, h.output, h.size, h.block⟩
theorem Kq.undrew {br : Nat} {a w : World} (h : Kq br a.drew w) : Kq br a w := ⟨h.os, h.tape, h.output, h.size, h.block⟩
theorem Kq.of_below {br : Nat} {w w' : World} (h : Below w.heap.size w w') : Kq br w w' := ⟨h.os, h.tape, h.output, h.size, fun k hk _ => h.block k hk⟩
theorem Kq.alloc {br : Nat} {a w : World} (h : Kq br a w) (o : Obj) : Kq br a (w.alloc o) :=
 h.trans (Kq.of_below ((Below.refl _ _).alloc (Nat.le_refl _) _))
theorem Kq.setCell {br : Nat} {a w : World} (h : Kq br a w) {p : Addr} (hp : p.block = br ∨ a.heap.size ≤ p.block) (u : Value) : Kq br a (w.setCell p u) := by
 refine ⟨h.os, h.tape, h.output, ?_, fun k hk hn => ?_⟩
 ·have := h.size; simp [World.setCell]; exact this
 ·rw [Below.heap_setCell _ _ _ _ (by rcases hp with hp | hp <;> omega)]; exact h.block k hk hn
theorem Kq.setRd {br : Nat} {a w : World} (h : Kq br a w) (o : Nat) (u : Value) : Kq br a (w.setCell ⟨br, o, none⟩ u) := h.setCell (p := ⟨br, o, none⟩) (Or.inl rfl) u
theorem ret_bool' {a b : Bool} (h : a = b) : Ending.returned (.bool a) = .returned (.bool b) := by rw [h]
def rdCells (s : ByteArray) (k a wd : Int) (T : ByteArray) (n : Int) (q : Nat) (c fa : Int) : Array Value :=
 #[.string s, .int .i64 k, .int .i64 a, .int .i64 wd, .string T, .int .u64 n, .int .i64 q, .int .i64 c, .int .i64 fa]
def Rd (br : Nat) (s : ByteArray) (w : World) (k a wd : Int) (T : ByteArray) (n : Int) (q : Nat) (c fa : Int) : Prop :=
 w.heap[br]? = some (.cells (rdCells s k a wd T n q c fa) 35)
theorem Rd.lt {br : Nat} {s : ByteArray} {w : World} {k a wd : Int} {T : ByteArray} {n : Int} {q : Nat} {c fa : Int} (h : Rd br s w k a wd T n q c fa) : br < w.heap.size := by
 rcases Nat.lt_or_ge br w.heap.size with h1 | h1
 ·exact h1
 ·unfold Rd at h; rw [Array.getElem?_eq_none h1] at h; cases h
theorem Rd.cell {br : Nat} {s : ByteArray} {w : World} {k a wd : Int} {T : ByteArray} {n : Int} {q : Nat} {c fa : Int} (h : Rd br s w k a wd T n q c fa) (o : Nat) :
  w.cell? ⟨br, o, none⟩ = (rdCells s k a wd T n q c fa)[o]? := by
 unfold Rd at h; simp [World.cell?, h]
theorem Rd.frozen {br : Nat} {s : ByteArray} {w : World} {k a wd : Int} {T : ByteArray} {n : Int} {q : Nat} {c fa : Int} (h : Rd br s w k a wd T n q c fa) (o : Nat) :
  w.frozen? ⟨br, o, none⟩ = false := by
 unfold Rd at h; simp [World.frozen?, h]
theorem Rd.all {br : Nat} {s : ByteArray} {w : World} {k a wd : Int} {T : ByteArray} {n : Int} {q : Nat} {c fa : Int} (h : Rd br s w k a wd T n q c fa) :
  w.cell? ⟨br, 0, none⟩ = some (.string s) ∧ w.cell? ⟨br, 1, none⟩ = some (.int .i64 k) ∧ w.cell? ⟨br, 2, none⟩ = some (.int .i64 a) ∧ w.cell? ⟨br, 3, none⟩ = some (.int .i64 wd) ∧
  w.cell? ⟨br, 4, none⟩ = some (.string T) ∧ w.cell? ⟨br, 5, none⟩ = some (.int .u64 n) ∧ w.cell? ⟨br, 6, none⟩ = some (.int .i64 q) ∧ w.cell? ⟨br, 7, none⟩ = some (.int .i64 c) ∧ w.cell? ⟨br, 8, none⟩ = some (.int .i64 fa) ∧ (∀ o, w.frozen? ⟨br, o, none⟩ = false) :=
 ⟨h.cell 0, h.cell 1, h.cell 2, h.cell 3, h.cell 4, h.cell 5, h.cell 6, h.cell 7, h.cell 8, fun o => h.frozen o⟩
theorem heap_setCell_self {w : World} {b o : Nat} {u : Value} {cs : Array Value} {t : TypeId} (h : w.heap[b]? = some (.cells cs t)) : (w.setCell ⟨b, o, none⟩ u).heap[b]? = some (.cells (cs.setIfInBounds o u) t) := by
 simp [World.setCell, Array.getElem?_modify, h]
theorem is_any (br : Nat) (s : ByteArray) (k a wd : Int) (T : ByteArray) (n : Int) (q : Nat) (c fa : Int) (t : ByteArray) (w : World) (h : Rd br s w k a wd T n q c fa) :
  Calls Tryz.prog 20 #[.pointer (some ⟨br, 0, none⟩), .string t] w fun e w' => e = .returned (.bool ((c == 0) && (k == 3) && (T.toList == t.toList))) ∧ w' = w := by
 obtain ⟨c0, c1, c2, c3, c4, c5, c6, c7, c8, fz⟩ := h.all
 clear h
 cases h1 : (c == 0)
 ·go_enter Tryz.func20, Tryz.ntmps20
  go_wp2
  go_ret
  exact ⟨rfl, rfl⟩
 ·cases h2 : (k == 3)
  ·go_enter Tryz.func20, Tryz.ntmps20
   go_wp2
   go_ret
   exact ⟨rfl, rfl⟩
  ·go_enter Tryz.func20, Tryz.ntmps20
   go_wp2
   go_ret
   exact ⟨ret_bool' (by simp), rfl⟩
def bs (l : List UInt8) : ByteArray := ⟨l.toArray⟩
theorem bs_append (a b : List UInt8) : bs a ++ bs b = bs (a ++ b) := by
 apply ByteArray.ext; simp [bs, ByteArray.data_append]
theorem bs_size (a : List UInt8) : (bs a).size = a.length := by simp [bs, ByteArray.size]
def decTxt (n : Nat) : List UInt8 := Lib.decDigits n
def numTxt (wd n : Nat) : List UInt8 := if wd = 0 then decTxt n else decTxt wd ++ [39, 100] ++ decTxt n
def signs : List (List UInt8) := [[], [126], [33], [45], [38], [124], [94], [42], [43], [45], [60, 60], [62, 62], [60], [60, 61], [62], [62, 61], [61, 61], [33, 61], [38], [94], [124], [38, 38], [124, 124]]
def signTxt (op : Int) : List UInt8 := signs.getD op.toNat []
def inTxt (k : Int) (t : List UInt8) : List UInt8 := if k = 5 ∨ k = 6 ∨ k = 7 then [40] ++ t ++ [41] else t
def commaTxt : List (List UInt8) → List UInt8
 | [] => []
 | [t] => t
 | t :: r => t ++ [44, 32] ++ commaTxt r
def nodeTxt (k op : Int) (nm : List UInt8) (es : List (Int × List Value × List UInt8)) : List UInt8 :=
 let t := fun i : Nat => (es.getD i (0, [], [])).2.2
 let u := fun i : Nat => inTxt (es.getD i (0, [], [])).1 (es.getD i (0, [], [])).2.2
 if k = 3 then nm ++ [91] ++ t 0 ++ [93]
 else if k = 4 then nm ++ [91] ++ t 0 ++ [58] ++ t 1 ++ [93]
 else if k = 5 then signTxt op ++ u 0
 else if k = 6 then u 0 ++ [32] ++ signTxt op ++ [32] ++ u 1
 else if k = 7 then u 0 ++ [32, 63, 32] ++ u 1 ++ [32, 58, 32] ++ u 2
 else if k = 9 then [123] ++ t 0 ++ t 1 ++ [125]
 else [123] ++ commaTxt (es.map (·.2.2)) ++ [125]
def Shape (k op : Int) (len : Nat) : Prop :=
 (k = 3 ∧ len = 1) ∨ (k = 4 ∧ len = 2) ∨ (k = 5 ∧ len = 1 ∧ 1 ≤ op ∧ op ≤ 6) ∨ (k = 6 ∧ len = 2 ∧ 7 ≤ op ∧ op ≤ 22) ∨ (k = 7 ∧ len = 3) ∨ (k = 8 ∧ 1 ≤ len) ∨ (k = 9 ∧ len = 2)
inductive PE (S : Nat → Prop) (w : World) : Int → List Value → List UInt8 → Prop
 | num (a op wd n : Int) (nm : ByteArray) (sa : Option Addr) (sl sc : Nat) (h1 : 0 ≤ wd) (h2 : wd ≤ 32) (h3 : 0 ≤ n) (h4 : n < 4294967296) :
   PE S w 1 [.int .i64 1, .int .i64 a, .int .i64 op, .int .i64 wd, .int .u64 n, .string nm, .slice sa sl sc] (numTxt wd.toNat n.toNat)
 | name (a op wd n : Int) (nm : List UInt8) (sa : Option Addr) (sl sc : Nat) :
   PE S w 2 [.int .i64 2, .int .i64 a, .int .i64 op, .int .i64 wd, .int .u64 n, .string (bs nm), .slice sa sl sc] nm
 | node (k a op wd n : Int) (nm : List UInt8) (b cap : Nat) (es : List (Int × List Value × List UInt8)) (hk : Shape k op es.length) (hS : S b) (hcap : es.length ≤ cap)
   (hel : ∀ (i : Nat) (x : Int × List Value × List UInt8), es[i]? = some x → PE S w x.1 x.2.1 x.2.2)
   (hce : ∀ (i : Nat) (x : Int × List Value × List UInt8), es[i]? = some x → ∀ (j : Nat) (v : Value), x.2.1[j]? = some v → w.cell? ⟨b, i * 7 + j, none⟩ = some v) :
   PE S w k [.int .i64 k, .int .i64 a, .int .i64 op, .int .i64 wd, .int .u64 n, .string (bs nm), .slice (some ⟨b, 0, none⟩) es.length cap] (nodeTxt k op nm es)
theorem PE.mono {S S' : Nat → Prop} {w w' : World} (hS : ∀ b, S b → S' b) (hw : ∀ b o v, S b → w.cell? ⟨b, o, none⟩ = some v → w'.cell? ⟨b, o, none⟩ = some v) {k : Int} {cs : List Value} {t : List UInt8} (h : PE S w k cs t) : PE S' w' k cs t := by
 induction h with
 | num a op wd n nm sa sl sc h1 h2 h3 h4 => exact PE.num a op wd n nm sa sl sc h1 h2 h3 h4
 | name a op wd n nm sa sl sc => exact PE.name a op wd n nm sa sl sc
 | node k a op wd n nm b cap es hk hSb hcap hel hce ih => exact PE.node k a op wd n nm b cap es hk (hS b hSb) hcap ih (fun i x hx j v hv => hw _ _ _ hSb (hce i x hx j v hv))
theorem PE.seven_slice {S : Nat → Prop} {w : World} {k : Int} {cs : List Value} {t : List UInt8} (h : PE S w k cs t) : ∃ (a op wd n : Int) (nm : ByteArray) (sa : Option Addr) (sl sc : Nat), cs = [.int .i64 k, .int .i64 a, .int .i64 op, .int .i64 wd, .int .u64 n, .string nm, .slice sa sl sc] := by
 cases h <;> exact ⟨_, _, _, _, _, _, _, _, rfl⟩
theorem PE.seven {S : Nat → Prop} {w : World} {k : Int} {cs : List Value} {t : List UInt8} (h : PE S w k cs t) : ∃ (a op wd n : Int) (nm : ByteArray) (sl : Value), cs = [.int .i64 k, .int .i64 a, .int .i64 op, .int .i64 wd, .int .u64 n, .string nm, sl] := by
 cases h <;> exact ⟨_, _, _, _, _, _, rfl⟩
theorem decTxt_big (k : Nat) (h : 9 < k) : decTxt k = decTxt (k / 10) ++ [UInt8.ofNat (48 + k % 10)] := by
 unfold decTxt; rw [Lib.decDigits, dif_neg (by omega)]
theorem decTxt_small (k : Nat) (h : k ≤ 9) : decTxt k = [UInt8.ofNat (48 + k)] := by
 unfold decTxt; rw [Lib.decDigits, dif_pos (by omega)]
theorem decTxt_len (d n : Nat) (h : n < 10 ^ (d + 1)) : (decTxt n).length ≤ d + 1 := by
 induction d generalizing n with
 | zero => rw [decTxt_small n (by omega)]; simp
 | succ d ih =>
  by_cases h9 : n ≤ 9
  ·rw [decTxt_small n h9]; simp
  ·rw [decTxt_big n (by omega)]
   have := ih (n / 10) (by rw [Nat.div_lt_iff_lt_mul (by decide)]; rw [Nat.pow_succ] at h; exact h)
   simp; omega
theorem conv_one (w : World) (v : Int) (h0 : 0 ≤ v) (h1 : v ≤ 255) :
  (convert 43 9 (.slice (some ⟨w.heap.size, 0, none⟩) 1 1)).run Tryz.prog (w.alloc (.cells #[.int .u8 v] 5)) = .ok (.string (bs [UInt8.ofNat v.toNat])) (w.alloc (.cells #[.int .u8 v] 5)) := by
 refine run_convert_bytes_back (w.alloc (.cells #[.int .u8 v] 5)) 43 9 5 ⟨w.heap.size, 0, none⟩ 1 [UInt8.ofNat v.toNat] Tryz.underlying43 Tryz.underlying5 Tryz.underlying9 ?_
 intro j hj
 have e : j = 0 := by simp at hj; omega
 subst e
 have hv : v = max v 0 % 256 := by omega
 simp [Addr.add]
 exact hv
theorem ret_str {a b : ByteArray} (h : a = b) : Ending.returned (.string a) = .returned (.string b) := by rw [h]
theorem dec_room {n k : Int} {l : List UInt8} (h1 : n < 4294967296) (h : decTxt n.toNat = decTxt k.toNat ++ l) : (bs l).size ≤ 20 := by
 have := decTxt_len 9 n.toNat (by omega)
 rw [h] at this
 rw [bs_size]; simp at this; omega
theorem bs_cons (c : UInt8) (l : List UInt8) : bs [c] ++ bs l = bs (c :: l) := by rw [bs_append]; rfl
theorem decimal_any (n : Int) (h0 : 0 ≤ n) (h1 : n < 4294967296) (w : World) :
  Calls Tryz.prog 47 #[.int .u64 n] w fun e w' => e = .returned (.string (bs (decTxt n.toNat))) ∧ Below w.heap.size w w' := by
 go_enter Tryz.func47, Tryz.ntmps47
 go_wp2
 go_loopw [0, 3] (fun x t w' => ∃ (k : Int) (l : List UInt8), 0 ≤ k ∧ k < 4294967296 ∧ x = .int .u64 k ∧ t = .string (bs l) ∧ Hid (decTxt n.toNat = decTxt k.toNat ++ l) ∧ Hid (Below w.heap.size w w')) (fun x _ _ => (intOf x).toNat)
 case atStart => exact ⟨n, [], h0, h1, rfl, rfl, by simp [Hid], Below.refl _ _⟩
 case round =>
  obtain ⟨k, l, hk0, hk, rfl, rfl, HD, HB⟩ := hrel
  by_cases h9 : 9 < k
  ·have hcv := conv_one wr (48 + k % 10) (by omega) (by omega)
   have z1 := bs_size [UInt8.ofNat (48 + k % 10).toNat]
   have zl : (bs l).size ≤ 20 := dec_room h1 HD.out
   go_wp2
   have hk' : 9 < k.toNat := by omega
   exact ⟨⟨k / 10, UInt8.ofNat (48 + k % 10).toNat :: l, by omega, by omega, rfl, congrArg Value.string (bs_cons _ _), by
    show decTxt n.toNat = _
    rw [HD.out, decTxt_big _ hk', show (48 + k % 10).toNat = 48 + k.toNat % 10 from by omega, show (k / 10).toNat = k.toNat / 10 from by omega]; simp, HB.out.alloc HB.out.size _⟩, by simp [intOf]; omega⟩
  ·have hcv := conv_one wr (48 + k) (by omega) (by omega)
   have z1 := bs_size [UInt8.ofNat (48 + k).toNat]
   have zl : (bs l).size ≤ 20 := dec_room h1 HD.out
   go_wp2
   go_ret
   refine ⟨?_, HB.out.alloc HB.out.size _⟩
   have e : bs [UInt8.ofNat (48 + k).toNat] ++ bs l = bs (decTxt n.toNat) := by
    rw [bs_cons, HD.out, decTxt_small _ (by omega), show (48 + k).toNat = 48 + k.toNat from by omega]; rfl
   exact ret_str e
end Go.Proofs.YtimmmlnememjiaaGreatDoor
