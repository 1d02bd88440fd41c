import Derived.Test.YtefjicdhccfieaaJ01
import Derived.Test.YtefjicdhccfieaaJ06
import Derived.Deep.Cut
set_option maxRecDepth 100000
set_option maxHeartbeats 16000000
namespace Go.Proofs.Ytefjicdhccfieaa
open Go.RowKit
theorem gset (w : World) (r j : Nat) (v : Value) : w.grownBy (w.setCell ⟨r, j, none⟩ v) (some r) :=
 ⟨rfl, rfl, rfl, by simp [World.setCell], fun k _ hk => Below.heap_setCell _ _ _ _ (fun e => hk (by rw [e]))⟩
theorem grown_trans' {a b c : World} {r : Nat} (h : a.grownBy b (some r)) (k : b.grownBy c (some r)) : a.grownBy c (some r) :=
 ⟨k.os.trans h.os, k.tape.trans h.tape, k.output.trans h.output, Nat.le_trans h.size k.size, fun x hx hne => (k.block x (Nat.lt_of_lt_of_le hx h.size) hne).trans (h.block x hx hne)⟩
theorem grown_refl' (w : World) (r : Option Nat) : w.grownBy w r := ⟨rfl, rfl, rfl, Nat.le_refl _, fun _ _ _ => rfl⟩
theorem gbel {w w' : World} (h : Below w.heap.size w w') (r : Option Nat) : w.grownBy w' r := ⟨h.os, h.tape, h.output, h.size, fun k hk _ => h.block k hk⟩
theorem set_self {w : World} {b o : Nat} {u : Value} {cs : Array Value} {t : TypeId} (h : w.heap[b]? = some (.cells cs t (0, 0))) : (w.setCell ⟨b, o, none⟩ u).heap[b]? = some (.cells (cs.setIfInBounds o u) t (0, 0)) := by
 simp [World.setCell, Array.getElem?_modify, h]
theorem HeldAt.put {w : World} {hb sb : Nat} {s : List Int} (h : HeldAt w hb sb s) (i : Nat) (x : Int) : HeldAt (w.setCell ⟨sb, i, none⟩ (.int .i64 x)) hb sb (s.set i x) := by
 refine ⟨?_, ?_, by simp [World.setCell]; exact h.hl, h.ne⟩
 ·rw [List.length_set]
  exact (World.cell?_setCell_other (h := fun e => h.ne (by cases e; rfl)) ..).trans h.h
 ·rw [set_self h.s]
  congr 2
  simp [List.map_set]
theorem put_any (w : World) (hb sb : Nat) (s : List Int) (l : Int) (h : HeldAt w hb sb s) (hl : l.natAbs < s.length) (hs : s.length ≤ 200000) :
  Calls Try.prog 47 #[.pointer (some ⟨hb, 0, none⟩), .int .i64 l] w fun e w' => e = .returned (.tuple #[]) ∧ HeldAt w' hb sb (putS s l) ∧ w.grownBy w' (some sb) := by
 obtain ⟨x, hx⟩ := getElem_lt hl
 have c0 := h.h
 have c1 := h.cell hx
 have z1 := h.fz l.natAbs
 have HH := hidden h
 clear h
 obtain ⟨n, hn⟩ : ∃ n, n = l.natAbs := ⟨_, rfl⟩
 have HN := hidden hn
 rw [← hn] at c1 hl z1
 have HP : Hid (∀ y : Int, y = (if l < 0 then -1 else 1) → HeldAt (w.setCell ⟨sb, n, none⟩ (.int .i64 y)) hb sb (putS s l)) := fun y hy => by
  unfold putS
  rw [← HN.out, ← hy]
  exact HH.out.put n y
 generalize s.length = sn at *
 by_cases hneg : l < 0
 ·have hln : -l = (n : Int) := by omega
  have e1 : IntKind.i64.wrap (-l) = (n : Int) := by rw [hln]; exact wrapI _ (by omega) (by omega)
  have hlt : (n : Int) < (sn : Int) := by omega
  have HP2 := hidden (HP.out (-1) (by rw [if_pos hneg]))
  clear hn hln hx HP
  go_enter Try.func47, Try.ntmps47
  go_wp2
  go_end0
  exact ⟨rfl, HP2.out, gset _ _ _ _⟩
 ·have HP2 := hidden (HP.out 1 (by rw [if_neg hneg]))
  have hln : l = (n : Int) := by omega
  clear hn hx HP
  subst hln
  have hlt : (n : Int) < (sn : Int) := by omega
  go_enter Try.func47, Try.ntmps47
  go_wp2
  go_end0
  exact ⟨rfl, HP2.out, gset _ _ _ _⟩
theorem ret_two {a b c d : Int} (h : a = b) (h' : c = d) : Ending.returned (.tuple #[.int .i64 a, .int .i64 c]) = .returned (.tuple #[.int .i64 b, .int .i64 d]) := by rw [h, h']
theorem open_any (w : World) (hb sb : Nat) (s : List Int) (h : HeldAt w hb sb s) (hs : s.length ≤ 200000) (a : Option Addr) (cc : Nat) (c : List Int) (R : RowAt w.heap.size w a 1 (c.map intC)) (hc : c.length ≤ 16777216) (hlit : ∀ m, m ∈ c → m.natAbs < s.length) :
  Calls Try.prog 48 #[.pointer (some ⟨hb, 0, none⟩), .slice a c.length cc] w fun e w' => e = .returned (.tuple #[.int .i64 (opn s c).1, .int .i64 (opn s c).2]) ∧ w' = w := by
 have HR := hidden R
 have IS : Hid (∀ l : Int, l.natAbs < s.length → Calls Try.prog 46 #[.pointer (some ⟨hb, 0, none⟩), .int .i64 l] w fun e w' => e = .returned (.bool (isT s l)) ∧ w' = w) := fun l hl => is_any w hb sb s l h hl hs
 have HLIT := hidden hlit
 clear R h hlit
 go_enter Try.func48, Try.ntmps48
 go_wp2_with fail
 go_loopw [6, 7, 8] (fun n' x' i' w' => ∃ (k : Nat) (n x : Int), k ≤ c.length ∧ n' = .int .i64 n ∧ x' = .int .i64 x ∧ i' = .int .i64 k ∧ Hid (opn s (c.take k) = (n, x)) ∧ 0 ≤ n ∧ n ≤ k ∧ w' = w) (fun _ _ i' _ => c.length - (intOf i').toNat)
 case atStart => exact ⟨0, 0, 0, Nat.zero_le _, rfl, rfl, rfl, by (show opn _ _ = _); simp [opn], by omega, by omega, rfl⟩
 case round =>
  obtain ⟨k, n, x, hk, rfl, rfl, rfl, HO, hn0, hnk, rfl⟩ := hrel
  by_cases hlt : k < c.length
  ·have hltI : (k : Int) < (c.length : Int) := by omega
   obtain ⟨m, hm⟩ := getElem_lt hlt
   obtain ⟨b, o, rfl, hbl, hcell⟩ := HR.out.intR hm
   have HM : Hid (m ∈ c) := List.mem_of_getElem? hm
   have hmb := HLIT.out m HM.out
   have HNX := hidden (opn_next s c k m hm)
   rw [HO.out] at HNX
   have I1 := hidden (IS.out (-m) (by rw [Int.natAbs_neg]; exact hmb))
   have e1 : IntKind.i64.wrap (-m) = -m := wrapI _ (by omega) (by omega)
   have e2 : IntKind.i64.wrap (n + 1) = n + 1 := wrapI _ (by omega) (by omega)
   have e3 : IntKind.i64.wrap ((k : Int) + 1) = (k : Int) + 1 := wrapI _ (by omega) (by omega)
   clear hm
   obtain ⟨t, HT⟩ : ∃ t, Hid (isT s (-m) = t) := ⟨_, rfl⟩
   rw [HT.out] at I1 HNX
   go_wp2_with fail
   go_at_call 46
   refine I1.out.mono ?_
   rintro e w1 ⟨rfl, hw1⟩
   subst hw1
   clear I1
   cases t
   ·by_cases hn1 : 0 < n
    ·by_cases hmx : m = x
     ·have hmxb : (m == x) = true := by simp [hmx]
      have HF : Hid (opn s (c.take (k + 1)) = (n, x)) := by show _ = _; rw [HNX.out]; simp [hn1, hmx]
      clear HNX hmx
      go_wp2
      go_roundw
      case measure => simp [intOf]; omega
      case rel => exact ⟨k + 1, n, x, by omega, rfl, rfl, by simp, HF.out, hn0, by omega, by first | rfl | trivial⟩
     ·have hmxb : (m == x) = false := by simp [hmx]
      have HF : Hid (opn s (c.take (k + 1)) = (n + 1, m)) := by show _ = _; rw [HNX.out]; simp [hmx]
      clear HNX hmx
      go_wp2
      go_roundw
      case measure => simp [intOf]; omega
      case rel => exact ⟨k + 1, n + 1, m, by omega, rfl, rfl, by simp, HF.out, by omega, by omega, by first | rfl | trivial⟩
    ·have HF : Hid (opn s (c.take (k + 1)) = (n + 1, m)) := by show _ = _; rw [HNX.out]; simp [hn1]
     clear HNX
     go_wp2
     go_roundw
     case measure => simp [intOf]; omega
     case rel => exact ⟨k + 1, n + 1, m, by omega, rfl, rfl, by simp, HF.out, by omega, by omega, by first | rfl | trivial⟩
   ·have HF : Hid (opn s (c.take (k + 1)) = (n, x)) := by show _ = _; rw [HNX.out]; simp
    clear HNX
    go_wp2
    go_roundw
    case measure => simp [intOf]; omega
    case rel => exact ⟨k + 1, n, x, by omega, rfl, rfl, by simp, HF.out, hn0, by omega, by first | rfl | trivial⟩
  ·have hge : ¬ ((k : Int) < (c.length : Int)) := by omega
   have HF : Hid (opn s c = (n, x)) := by have := HO.out; rwa [List.take_of_length_le (by omega)] at this
   go_wp2
   go_ret2
   exact ⟨ret_two (by rw [HF.out]) (by rw [HF.out]), rfl⟩
end Go.Proofs.Ytefjicdhccfieaa

set_option maxRecDepth 100000
set_option maxHeartbeats 16000000
namespace Go.Proofs.Ytefjicdhccfieaa
open Go.RowKit
theorem row_of_own {w : World} {C e n g : Nat} {xs : List Value} (h : w.ownsRow C e 1 (.slice (some ⟨g, 0, none⟩) n n) n xs) : w.heap[g]? = some (.cells xs.toArray e (0, 0)) := by
 rcases h.2 with ⟨h', _⟩ | ⟨g', cap', cur, h', _, hh, _, _, hcs, htake⟩
 ·simp at h'
 ·simp only [Value.slice.injEq, Option.some.injEq, Addr.mk.injEq, and_true, true_and] at h'
  obtain ⟨rfl, rfl⟩ := h'
  rw [hh]
  rw [List.take_of_length_le (by rw [Array.length_toList, hcs]; exact Nat.le_refl _)] at htake
  rw [← htake]
theorem made_int (n : Nat) : (madeCells (Value.int .i64 0).cells (n * 1)).toList = List.replicate n (.int .i64 0) := by
 rw [Nat.mul_one]
 apply List.ext_getElem?
 intro i
 by_cases h : i < n
 ·simp [madeCells, Value.cells, h, Nat.mod_one]
 ·simp [madeCells, Value.cells, h]
theorem none_below {w w' : World} (h : w.grownBy w' none) : Below w.heap.size w w' := ⟨h.os, h.tape, h.output, h.size, fun k hk => h.block k hk (fun e => by cases e)⟩
theorem below_of {w w' : World} {B r : Nat} (hg : w.grownBy w' (some r)) (hr : B ≤ r) (hB : B ≤ w.heap.size) : Below B w w' := ⟨hg.os, hg.tape, hg.output, hg.size, fun k hk => hg.block k (by omega) (fun e => by have := Option.some.inj e; omega)⟩
theorem info_int0 : (Try.prog.info? 3).map (fun i => (i.zero, i.size, i.bytes)) = some (some (.int .i64 0), 1, 8) := by kernel_rfl
theorem info_int : ∃ i, Try.prog.info? 3 = some i ∧ i.zero = some (.int .i64 0) ∧ i.size = 1 ∧ i.bytes = 8 := by
 have h := info_int0
 cases hi : Try.prog.info? 3 with
 | none => rw [hi] at h; cases h
 | some i => rw [hi] at h; simp at h; exact ⟨i, rfl, h.1, h.2.1, h.2.2⟩
def zeros : List Int → Nat
 | [] => 0
 | x :: l => (if x = 0 then 1 else 0) + zeros l
theorem zeros_set : ∀ (s : List Int) (n : Nat) (y : Int), s[n]? = some 0 → y ≠ 0 → zeros (s.set n y) + 1 = zeros s
 | [], n, y, h, _ => by simp at h
 | x :: l, 0, y, h, hy => by
  simp at h
  subst h
  simp [zeros, hy]; omega
 | x :: l, n + 1, y, h, hy => by
  simp at h
  have := zeros_set l n y h hy
  simp only [sC, zeros]
  omega
theorem zero_of {s : List Int} {l : Int} (hl : l.natAbs < s.length) (h0 : l ≠ 0) (h1 : isT s l = false) (h2 : isT s (-l) = false) : s[l.natAbs]? = some 0 := by
 rw [List.getElem?_eq_getElem hl]
 unfold isT at h1 h2
 rw [Int.natAbs_neg] at h2
 rw [List.getD_eq_getElem?_getD, List.getElem?_eq_getElem hl] at h1 h2
 simp only [Option.getD_some] at h1 h2
 congr 1
 split at h1 <;> split at h2 <;> simp at h1 h2 <;> omega
theorem zeros_put {s : List Int} {l : Int} (hl : l.natAbs < s.length) (h0 : l ≠ 0) (h1 : isT s l = false) (h2 : isT s (-l) = false) : zeros (putS s l) + 1 = zeros s :=
 zeros_set s _ _ (zero_of hl h0 h1 h2) (by split <;> omega)
def InitS (s c : List Int) : Prop := ∀ m, m ≠ 0 → (isT s m = true ↔ -m ∈ c)
def NoT (c : List Int) : Prop := ∀ l, l ∈ c → -l ∉ c
theorem init_zero (n : Nat) : InitS (List.replicate n 0) [] := fun m _ => by
 have : (List.replicate n (0 : Int)).getD m.natAbs 0 = 0 := by rw [List.getD_eq_getElem?_getD, List.getElem?_replicate]; split <;> rfl
 unfold isT
 rw [this]
 simp
theorem init_next {s c : List Int} {x : Int} (h : InitS s c) (hx : x ≠ 0) (hl : x.natAbs < s.length) (hn : isT s x = false) : InitS (putS s (-x)) (c ++ [x]) := fun m hm => by
 rw [isT_put (by rw [Int.natAbs_neg]; exact hl) (by omega) hm (by rw [Int.neg_neg]; exact hn), h m hm]
 simp
 constructor
 ·rintro (e | h)
  ·exact .inr (by omega)
  ·exact .inl h
 ·rintro (h | e)
  ·exact .inr h
  ·exact .inl (by omega)
theorem not_next {s c : List Int} {x : Int} (hi : InitS s c) (h : NoT c) (hx : x ≠ 0) (hn : isT s x = false) : NoT (c ++ [x]) := fun l hl hl2 => by
 have hxc : -x ∉ c := fun hh => by
  have := (hi x hx).2 hh
  rw [hn] at this; cases this
 rcases List.mem_append.1 hl with h1 | h1
 ·rcases List.mem_append.1 hl2 with h2 | h2
  ·exact h l h1 h2
  ·have e : -l = x := List.mem_singleton.1 h2
   exact hxc (by rw [← e, Int.neg_neg]; exact h1)
 ·have e : l = x := List.mem_singleton.1 h1
  subst e
  rcases List.mem_append.1 hl2 with h2 | h2
  ·exact hxc h2
  ·have : -l = l := List.mem_singleton.1 h2
   omega
def SS (s : List Int) : Int → Prop := fun l => l ≠ 0 ∧ isT s l = true
structure UpS (F : List (List Int)) (c s : List Int) : Prop where
 sound : ∀ l, SS s l → Der F (fun l => -l ∈ c) l
 has : ∀ l, -l ∈ c → SS s l
theorem up_init {F : List (List Int)} {c s : List Int} (h : InitS s c) (hc : ∀ m, m ∈ c → m ≠ 0) : UpS F c s :=
 ⟨fun l hl => .asm ((h l hl.1).1 hl.2), fun l hl => ⟨by have := hc _ hl; omega, (h l (by have := hc _ hl; omega)).2 hl⟩⟩
theorem up_clash {F : List (List Int)} {c s d : List Int} (h : UpS F c s) (hd : d ∈ F) (h0 : ∀ m, m ∈ d → m ≠ 0) (ho : ∀ m, m ∈ d → isT s (-m) = true) : Fol F c :=
 .inr ⟨d, hd, fun m hm => h.sound _ ⟨by have := h0 m hm; omega, ho m hm⟩⟩
theorem up_put {F : List (List Int)} {c s d : List Int} {x : Int} (h : UpS F c s) (hd : d ∈ F) (h0 : ∀ m, m ∈ d → m ≠ 0) (hx : x ∈ d) (hl : x.natAbs < s.length) (hn : isT s (-x) = false) (ho : ∀ m, m ∈ d → m ≠ x → isT s (-m) = true) : UpS F c (putS s x) := by
 have hx0 := h0 x hx
 have hu : Der F (fun l => -l ∈ c) x := .unit hd hx (fun m hm hne => h.sound _ ⟨by have := h0 m hm; omega, ho m hm hne⟩)
 refine ⟨fun l hl => ?_, fun l hl => ⟨(h.has l hl).1, (isT_put hl' hx0 (h.has l hl).1 hn).2 (.inr (h.has l hl).2)⟩⟩
 ·rcases (isT_put hl' hx0 hl.1 hn).1 hl.2 with e | e
  ·rw [e]; exact hu
  ·exact h.sound l ⟨hl.1, e⟩
 where hl' := hl
theorem rests_of {s d : List Int} (h0 : ∀ m, m ∈ d → m ≠ 0) (h1 : (opn s d).1 ≠ 0) (h2 : (opn s d).1 = 1 → isT s (opn s d).2 = true) : Rests (SS s) d := by
 have ok := opn_ok s d
 have := ok.nn
 by_cases e : (opn s d).1 = 1
 ·exact .inl ⟨_, (ok.one (by omega)).1, h0 _ (ok.one (by omega)).1, h2 e⟩
 ·obtain ⟨a, b, ha, hb, hab, hna, hnb⟩ := ok.two (by omega)
  exact .inr ⟨a, b, ha, hb, hab, fun h => (by have h2 := h.2; rw [hna] at h2; cases h2), fun h => (by have h2 := h.2; rw [hnb] at h2; cases h2)⟩
theorem up_end {F : List (List Int)} {c s : List Int} (h : UpS F c s) (ht : NoT c) (h0 : ∀ d, d ∈ F → ∀ m, m ∈ d → m ≠ 0) (hr : ∀ d, d ∈ F → Rests (SS s) d) : ¬ Fol F c := by
 rintro (⟨l, h1, h2⟩ | hcl)
 ·exact ht l h1 h2
 ·have hb : Book F F (fun _ => False) := ⟨fun _ h => h.elim, fun d hd => .inr (.inr ⟨d, hd, fun _ h => h, fun m h1 h2 => absurd h1 h2⟩), fun d hd => ⟨d, hd, fun _ h => h, fun m h1 h2 => absurd h1 h2⟩, h0⟩
  exact rests_quiet hb (fun _ h => h.elim) h.has (isT_cons s) hr hcl
end Go.Proofs.Ytefjicdhccfieaa

set_option maxRecDepth 100000
set_option maxHeartbeats 16000000
namespace Go.Proofs.Ytefjicdhccfieaa
open Go.RowKit
def FolPost (w : World) (F : List (List Int)) (c : List Int) (e : Ending) (w' : World) : Prop := ∃ b, e = .returned (.bool b) ∧ (b = true ↔ Fol F c) ∧ Below w.heap.size w w'
theorem follows_any (B : Nat) (w : World) (a : Option Addr) (cc V : Nat) (cls : List CL) (h : ClAt B w a cls) (hB : B ≤ w.heap.size) (hV : V ≤ 100000) (hF : ∀ t, t ∈ cls → ∀ m, m ∈ t.l → m ≠ 0 ∧ m.natAbs ≤ V) (ca : Option Addr) (ccap : Nat) (c : List Int) (R : RowAt B w ca 1 (c.map intC)) (hc : c.length ≤ 16777216) (hcl : ∀ m, m ∈ c → m ≠ 0 ∧ m.natAbs ≤ V) :
  Calls Try.prog 22 #[.agg #[.int .i64 (V : Int), .slice a cls.length cc], .slice ca c.length ccap] w fun e w' => FolPost w (cls.map CL.l) c e w' := by
 have HCL := hidden h
 have HR := hidden R
 have HF : Hid (∀ t, t ∈ cls → ∀ m, m ∈ t.l → m ≠ 0 ∧ m.natAbs ≤ V) := hF
 have HC : Hid (∀ m, m ∈ c → m ≠ 0 ∧ m.natAbs ≤ V) := hcl
 have hcn : cls.length ≤ 16777216 := by have := total_len cls; have := h.tot; omega
 have e1 : IntKind.i64.wrap ((V : Int) + 1) = ((V + 1 : Nat) : Int) := by rw [wrapI _ (by omega) (by omega)]; omega
 obtain ⟨ib, hi, hz, hs, hbb⟩ := info_int
 have HI := hidden hi
 have HZ := hidden hz
 have HS := hidden hs
 have hmkb : ib.bytes * (V + 1) ≤ 281474976710656 := by rw [hbb]; omega
 have hmx : V + 1 ≤ maxLen := by simp only [maxLen]; omega
 clear h R hF hcl hi hz hs hbb
 go_enter Try.func22, Try.ntmps22
 go_upto_region 1 with fail
 generalize hW : World.alloc w _ = W
 obtain ⟨fx, hfx⟩ : ∃ x, x = w.heap.size := ⟨_, rfl⟩
 have HB1 : Hid (Below w.heap.size w W) := by rw [← hW]; exact (Below.refl _ _).alloc (Nat.le_refl _) _
 have HX : Hid (W.heap[fx]? = some (.cells #[.int .i64 (V : Int), .slice a cls.length cc] 24 (0, 0))) := by rw [← hW, hfx]; exact heap_new _ _
 have hfl : fx < W.heap.size := by rw [← hW, hfx]; simp
 rw [← hfx]
 have hfw : w.heap.size ≤ fx := by omega
 clear hW hfx
 have f0 : W.cell? ⟨fx, 0, none⟩ = some (.int .i64 (V : Int)) := by simp [World.cell?, HX.out]
 have tok : True := trivial
 go_upto_region 2 with (have _t := tok; at_make; (refine wpList_make_full _ rfl (.tmp 13) (.tmp 13) 26 rfl W.heap.size 3 ib _ 1 Try.underlying26 HI.out HZ.out HS.out .i64 .i64 ((V + 1 : Nat) : Int) ((V + 1 : Nat) : Int) (V + 1) rfl rfl rfl rfl hmkb hmx (Nat.le_refl _) ?_; intro w3 hown3 hgrow3; clear tok))
 generalize hW4 : World.alloc w3 _ = w4
 obtain ⟨sb, hsb⟩ : ∃ x, x = W.heap.size := ⟨_, rfl⟩
 obtain ⟨hb, hhb⟩ : ∃ x, x = w3.heap.size := ⟨_, rfl⟩
 have HQ3 : Hid (w3.heap[sb]? = some (.cells (List.replicate (V + 1) (.int .i64 0)).toArray 3 (0, 0))) := by
  have := row_of_own hown3
  rw [made_int] at this
  rw [hsb]; exact this
 have HB3 : Hid (Below W.heap.size W w3) := none_below hgrow3
 have hs3 : sb < w3.heap.size := by
  rcases Nat.lt_or_ge sb w3.heap.size with h' | h'
  ·exact h'
  ·have := HQ3.out; rw [Array.getElem?_eq_none h'] at this; cases this
 have HB4 : Hid (Below w3.heap.size w3 w4) := by rw [← hW4]; exact (Below.refl _ _).alloc (Nat.le_refl _) _
 have HHA : Hid (HeldAt w4 hb sb (List.replicate (V + 1) 0)) := by
  refine ⟨?_, ?_, ?_, by omega⟩
  ·rw [← hW4, hhb, hsb]
   simp
  ·rw [(HB4.out.block sb hs3).trans HQ3.out]; simp
  ·rw [← hW4, hhb]; simp
 have HBW : Hid (Below w.heap.size w w4) := HB1.out.trans ((HB3.out.trans (HB4.out.mono HB3.out.size)).mono HB1.out.size)
 have HX4 : Hid (w4.cell? ⟨fx, 1, none⟩ = some (.slice a cls.length cc)) := by
  have h1 : W.cell? ⟨fx, 1, none⟩ = some (.slice a cls.length cc) := by simp [World.cell?, HX.out]
  exact ((HB3.out.trans (HB4.out.mono HB3.out.size)).cell (p := ⟨fx, 1, none⟩) hfl).trans h1
 rw [← hsb, ← hhb]
 have hsw : w.heap.size ≤ sb := by have := HB1.out.size; omega
 have hsfx : fx ≠ sb := by omega
 have hfl4 : fx < w4.heap.size := by have := HB3.out.size; have := HB4.out.size; omega
 have hBw : w.heap.size ≤ w4.heap.size := HBW.out.size
 clear hW4 hown3 hgrow3 hsb hhb f0 e1 HX HQ3 HB3 HB4 HI HZ HS hmkb
 have IS : Hid (∀ (s : List Int) (l : Int) w', HeldAt w' hb sb s → s.length = V + 1 → l.natAbs ≤ V → Calls Try.prog 46 #[.pointer (some ⟨hb, 0, none⟩), .int .i64 l] w' fun e w'' => e = .returned (.bool (isT s l)) ∧ w'' = w') := fun s l w' h hs hl => is_any w' hb sb s l h (by omega) (by omega)
 have PU : Hid (∀ (s : List Int) (l : Int) w', HeldAt w' hb sb s → s.length = V + 1 → l.natAbs ≤ V → Calls Try.prog 47 #[.pointer (some ⟨hb, 0, none⟩), .int .i64 l] w' fun e w'' => e = .returned (.tuple #[]) ∧ HeldAt w'' hb sb (putS s l) ∧ w'.grownBy w'' (some sb)) := fun s l w' h hs hl => put_any w' hb sb s l h (by omega) (by omega)
 have RWS : Hid (∀ w', w4.grownBy w' (some sb) → RowAt B w' ca 1 (c.map intC) ∧ ClAt B w' a cls ∧ w'.cell? ⟨fx, 1, none⟩ = some (.slice a cls.length cc) ∧ Below w.heap.size w w') := fun w' hg => by
  have hb1 : Below w.heap.size w4 w' := below_of hg hsw hBw
  have hb2 : Below w.heap.size w w' := HBW.out.trans hb1
  refine ⟨HR.out.to (hb2.mono hB), HCL.out.to (hb2.mono hB), ?_, hb2⟩
  have : w'.cell? ⟨fx, 1, none⟩ = w4.cell? ⟨fx, 1, none⟩ := World.cell?_of_block (hg.block fx hfl4 (fun e => hsfx (Option.some.inj e)))
  rw [this]; exact HX4.out
 obtain ⟨F, hFd⟩ : ∃ F, F = cls.map CL.l := ⟨_, rfl⟩
 have HFD := hidden hFd
 have HF0 : Hid (∀ d, d ∈ F → ∀ m, m ∈ d → m ≠ 0) := fun d hd m hm => by
  rw [hFd] at hd
  obtain ⟨t, ht, rfl⟩ := List.mem_map.1 hd
  exact (HF.out t ht m hm).1
 clear hFd
 go_wp2_with fail
 go_loopw [6] (fun i' w' => ∃ (k : Nat) (s : List Int), k ≤ c.length ∧ i' = .int .i64 k ∧ Hid (s.length = V + 1) ∧ Hid (HeldAt w' hb sb s) ∧ Hid (InitS s (c.take k)) ∧ Hid (NoT (c.take k)) ∧ Hid (w4.grownBy w' (some sb))) (fun i' _ => c.length - (intOf i').toNat)
 case atStart => exact ⟨0, List.replicate (V + 1) 0, Nat.zero_le _, rfl, by (show _ = _); simp, HHA.out, init_zero _, fun l hl => by simp at hl, grown_refl' _ _⟩
 case round =>
  obtain ⟨k, s, hk, rfl, HSL, HH, HIN, HNT, HG⟩ := hrel
  clear HHA
  by_cases hlt : k < c.length
  ·have hltI : (k : Int) < (c.length : Int) := by omega
   obtain ⟨x, hx⟩ := getElem_lt hlt
   have HXM : Hid (x ∈ c) := List.mem_of_getElem? hx
   have hxv := HC.out x HXM.out
   obtain ⟨b, o, rfl, hbl, hcell⟩ := (RWS.out wr HG.out).1.intR hx
   have HCE := hidden hcell
   have HBR : Hid (b < w.heap.size) := by show _ < _; omega
   have I1 := hidden (IS.out s x wr HH.out HSL.out hxv.2)
   have e2 : IntKind.i64.wrap (-x) = -x := wrapI _ (by omega) (by omega)
   have e3 : IntKind.i64.wrap ((k : Int) + 1) = (k : Int) + 1 := wrapI _ (by omega) (by omega)
   have HTK := hidden (take_next c k x hx)
   obtain ⟨t, HT⟩ : ∃ t, Hid (isT s x = t) := ⟨_, rfl⟩
   rw [HT.out] at I1
   clear hx
   go_wp2_with fail
   go_at_call 46
   refine I1.out.mono ?_
   rintro e w1 ⟨rfl, hw1⟩
   subst hw1
   clear I1
   cases t
   ·have P1 := hidden (PU.out s (-x) w1 HH.out HSL.out (by rw [Int.natAbs_neg]; exact hxv.2))
    go_wp2_with fail
    go_at_call 47
    refine P1.out.mono ?_
    rintro e w2 ⟨rfl, hh2, hg2⟩
    have HH2 := hidden hh2
    have HG2 : Hid (w4.grownBy w2 (some sb)) := grown_trans' HG.out hg2
    have HIN2 : Hid (InitS (putS s (-x)) (c.take (k + 1))) := by rw [HTK.out]; exact init_next HIN.out hxv.1 (by have := HSL.out; omega) HT.out
    have HNT2 : Hid (NoT (c.take (k + 1))) := by rw [HTK.out]; exact not_next HIN.out HNT.out hxv.1 HT.out
    have HSL2 : Hid ((putS s (-x)).length = V + 1) := by show _ = _; rw [putS_len]; exact HSL.out
    clear hh2 hg2 P1 hcell HCE HIN HNT HH HG
    go_wp2
    go_roundw
    case measure => simp [intOf]; omega
    case rel => exact ⟨k + 1, putS s (-x), by omega, by simp, HSL2.out, HH2.out, HIN2.out, HNT2.out, HG2.out⟩
   ·have HFO : Hid (Fol (cls.map CL.l) c) := by
     refine Or.inl ⟨-x, ?_, by rw [Int.neg_neg]; exact HXM.out⟩
     exact List.mem_of_mem_take ((HIN.out x hxv.1).1 HT.out)
    have HBE := hidden (RWS.out w1 HG.out).2.2.2
    go_wp2
    go_ret
    exact ⟨true, rfl, ⟨fun _ => HFO.out, fun _ => rfl⟩, HBE.out⟩
  ·have hge : ¬ ((k : Int) < (c.length : Int)) := by omega
   have HTA : Hid (c.take k = c) := List.take_of_length_le (by omega)
   have HUP : Hid (UpS F c s) := up_init (by have := HIN.out; rwa [HTA.out] at this) (fun m hm => (HC.out m hm).1)
   have HNO : Hid (NoT c) := by have := HNT.out; rwa [HTA.out] at this
   have HS0 := HSL
   have HH0 := HH
   have HG0 := HG
   clear HIN HNT HTA
   go_wp2_with fail
   go_loopg [7] (zeros s + 1) (fun gk m' w' => ∃ (more : Bool) (s : List Int), m' = .bool more ∧ gk = zeros s + (if more then 1 else 0) ∧ Hid (s.length = V + 1) ∧ Hid (HeldAt w' hb sb s) ∧ Hid (UpS F c s) ∧ Hid (more = false → ∀ d, d ∈ F → Rests (SS s) d) ∧ Hid (w4.grownBy w' (some sb)))
   case atStart => exact ⟨true, s, rfl, rfl, HS0.out, HH0.out, HUP.out, fun h => (by cases h), HG0.out⟩
   case round =>
    obtain ⟨more, s2, rfl, hgk, HSL2, HH2, HUP2, HRS, HG2⟩ := hrel
    clear HS0 HH0 HG0 HUP
    cases more
    ·have HNF : Hid (¬ Fol (cls.map CL.l) c) := by rw [← HFD.out]; exact up_end HUP2.out HNO.out HF0.out (HRS.out rfl)
     have HBE := hidden (RWS.out wr HG2.out).2.2.2
     go_wp2
     go_ret
     exact ⟨false, rfl, ⟨fun h => (by cases h), fun h => absurd h HNF.out⟩, HBE.out⟩
    ·have hgk' : gk = zeros s2 + 1 := hgk
     clear hgk HRS
     go_wp2_with fail
     go_loopw [7, 8] (fun m' i' w' => ∃ (k : Nat) (more : Bool) (s3 : List Int), k ≤ cls.length ∧ m' = .bool more ∧ i' = .int .i64 k ∧ Hid (s3.length = V + 1) ∧ Hid (HeldAt w' hb sb s3) ∧ Hid (UpS F c s3) ∧ Hid (more = true → zeros s3 < zeros s2) ∧ Hid (more = false → s3 = s2 ∧ ∀ (j : Nat) d, j < k → F[j]? = some d → Rests (SS s2) d) ∧ Hid (w4.grownBy w' (some sb))) (fun _ i' _ => cls.length - (intOf i').toNat)
     case atStart => exact ⟨0, false, s2, Nat.zero_le _, rfl, rfl, HSL2.out, HH2.out, HUP2.out, fun h => (by cases h), fun _ => ⟨rfl, fun j d hj => absurd hj (by omega)⟩, HG2.out⟩
     case round =>
      obtain ⟨k, more, s3, hk2, rfl, rfl, HSL3, HH3, HUP3, HM1, HM2, HG3⟩ := hrel
      clear HSL2 HH2 HUP2 HG2
      have HRW := hidden (RWS.out wr HG3.out)
      have c1 := HRW.out.2.2.1
      by_cases hlt2 : k < cls.length
      ·have hlt2I : (k : Int) < (cls.length : Int) := by omega
       obtain ⟨t, ht⟩ := getElem_lt hlt2
       have HTM : Hid (t ∈ cls) := List.mem_of_getElem? ht
       obtain ⟨b, o, rfl, hbl, hcell⟩ := HRW.out.2.1.row.el ht
       have ct := hcell 0 _ rfl
       simp only [Nat.mul_one, Nat.add_zero] at ct
       have HFT : Hid (F[k]? = some t.l) := by show _ = _; rw [HFD.out, List.getElem?_map, ht]; rfl
       have HFM : Hid (t.l ∈ F) := List.mem_of_getElem? HFT.out
       have hBr : B ≤ wr.heap.size := Nat.le_trans hB HRW.out.2.2.2.size
       have htl : t.l.length ≤ 16777216 := by have := total_one cls k t ht; have := HCL.out.tot; omega
       have OP := hidden (open_any wr hb sb s3 HH3.out (by have := HSL3.out; omega) t.a t.c t.l ((HRW.out.2.1.each t HTM.out).mono hBr) htl (fun m hm => by have := (HF.out t HTM.out m hm).2; have := HSL3.out; omega))
       have HOK := hidden (opn_ok s3 t.l)
       obtain ⟨n, x, HO⟩ : ∃ n x, Hid (opn s3 t.l = (n, x)) := ⟨_, _, rfl⟩
       rw [HO.out] at OP HOK
       have hn0 := HOK.out.nn
       have hnl := HOK.out.le
       simp only at hn0 hnl
       have e5 : IntKind.i64.wrap ((k : Int) + 1) = (k : Int) + 1 := wrapI _ (by omega) (by omega)
       have hT0 : ∀ m, m ∈ t.l → m ≠ 0 := fun m hm => (HF.out t HTM.out m hm).1
       have HT0 := hidden hT0
       have HRES : Hid ((n ≠ 0) → (n = 1 → isT s3 x = true) → Rests (SS s3) t.l) := fun h1 h2 => rests_of HT0.out (by rw [HO.out]; exact h1) (by rw [HO.out]; exact h2)
       have HNXT : Hid (∀ (more : Bool), (more = false → s3 = s2 ∧ ∀ (j : Nat) d, j < k → F[j]? = some d → Rests (SS s2) d) → Rests (SS s3) t.l → (more = false → s3 = s2 ∧ ∀ (j : Nat) d, j < k + 1 → F[j]? = some d → Rests (SS s2) d)) := fun more h1 h2 hm => by
        obtain ⟨e, h3⟩ := h1 hm
        refine ⟨e, fun j d hj hd => ?_⟩
        rcases Nat.lt_or_ge j k with h' | h'
        ·exact h3 j d h' hd
        ·have : j = k := by omega
         subst this
         rw [HFT.out] at hd
         cases hd
         rw [← e]; exact h2
       clear ht hcell hT0
       generalize htln : t.l.length = tln at *
       clear htln
       go_wp2_with fail
       go_at_call 48
       refine OP.out.mono ?_
       rintro e w1 ⟨rfl, hw1⟩
       subst hw1
       clear OP
       by_cases hn00 : n = 0
       ·have hn0b : (n == 0) = true := by simp [hn00]
        have HFO : Hid (Fol (cls.map CL.l) c) := by rw [← HFD.out]; exact up_clash HUP3.out HFM.out HT0.out (HOK.out.none hn00)
        clear hn00
        go_wp2
        go_ret
        exact ⟨true, rfl, ⟨fun _ => HFO.out, fun _ => rfl⟩, HRW.out.2.2.2⟩
       ·have hn0b : (n == 0) = false := by simp [hn00]
        by_cases hn1 : n = 1
        ·have hn1b : (n == 1) = true := by simp [hn1]
         have hon := HOK.out.one (by show 0 < n; omega)
         simp only at hon
         have HON := hidden hon
         have hxv := HF.out t HTM.out x hon.1
         have I1 := hidden (IS.out s3 x w1 HH3.out HSL3.out hxv.2)
         obtain ⟨q, HQ⟩ : ∃ q, Hid (isT s3 x = q) := ⟨_, rfl⟩
         rw [HQ.out] at I1 HRES
         have HOY := hidden (HOK.out.only hn1)
         clear hon hn1 hn00
         go_wp2_with fail
         go_at_call 46
         refine I1.out.mono ?_
         rintro e w2 ⟨rfl, hw2⟩
         subst hw2
         clear I1
         cases q
         ·have P1 := hidden (PU.out s3 x w2 HH3.out HSL3.out hxv.2)
          have hzp := zeros_put (s := s3) (l := x) (by have := HSL3.out; omega) hxv.1 HQ.out HON.out.2
          have HZP := hidden hzp
          go_wp2_with fail
          go_at_call 47
          refine P1.out.mono ?_
          rintro e w3 ⟨rfl, hh3, hg3⟩
          have HH4 := hidden hh3
          have HG4 : Hid (w4.grownBy w3 (some sb)) := grown_trans' HG3.out hg3
          have HUP4 : Hid (UpS F c (putS s3 x)) := up_put HUP3.out HFM.out HT0.out HON.out.1 (by have := HSL3.out; omega) HON.out.2 HOY.out
          have HSL4 : Hid ((putS s3 x).length = V + 1) := by show _ = _; rw [putS_len]; exact HSL3.out
          have HM14 : Hid (zeros (putS s3 x) < zeros s2) := by
           show _ < _
           have hle : zeros s3 ≤ zeros s2 := by
            cases more with
            | true => have := HM1.out rfl; omega
            | false => rw [(HM2.out rfl).1]; exact Nat.le_refl _
           have := HZP.out
           omega
          clear hh3 hg3 P1 c1 ct hzp
          go_wp2
          go_roundw
          case measure => simp [intOf]; omega
          case rel => exact ⟨k + 1, true, putS s3 x, by omega, rfl, by simp, HSL4.out, HH4.out, HUP4.out, fun _ => HM14.out, fun h => (by cases h), HG4.out⟩
         ·have HM24 := hidden (HNXT.out more HM2.out (HRES.out (by intro h; rw [h] at hn1b; simp at hn1b) (fun _ => rfl)))
          clear c1 ct
          go_wp2
          go_roundw
          case measure => simp [intOf]; omega
          case rel => exact ⟨k + 1, more, s3, by omega, rfl, by simp, HSL3.out, HH3.out, HUP3.out, HM1.out, HM24.out, HG3.out⟩
        ·have hn1b : (n == 1) = false := by simp [hn1]
         have HM24 := hidden (HNXT.out more HM2.out (HRES.out hn00 (fun h => absurd h hn1)))
         clear c1 ct hn1 hn00
         go_wp2
         go_roundw
         case measure => simp [intOf]; omega
         case rel => exact ⟨k + 1, more, s3, by omega, rfl, by simp, HSL3.out, HH3.out, HUP3.out, HM1.out, HM24.out, HG3.out⟩
      ·have hge2 : ¬ ((k : Int) < (cls.length : Int)) := by omega
       have hkN : k = cls.length := by omega
       have HRS2 : Hid (more = false → ∀ d, d ∈ F → Rests (SS s3) d) := fun hm d hd => by
        obtain ⟨e, h3⟩ := HM2.out hm
        obtain ⟨j, hj⟩ := List.getElem?_of_mem hd
        rw [e]
        refine h3 j d ?_ hj
        have := (List.getElem?_eq_some_iff.1 hj).1
        rw [HFD.out, List.length_map] at this
        omega
       clear hkN
       go_wp2_with fail
       go_roundg (zeros s3 + (if more then 1 else 0))
       case measure =>
        cases more with
        | true => have := HM1.out rfl; simp; omega
        | false => rw [(HM2.out rfl).1]; simp
       case rel => exact ⟨more, s3, rfl, rfl, HSL3.out, HH3.out, HUP3.out, HRS2.out, HG3.out⟩
end Go.Proofs.Ytefjicdhccfieaa
