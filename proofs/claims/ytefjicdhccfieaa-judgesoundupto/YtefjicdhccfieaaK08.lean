import Derived.Test.YtefjicdhccfieaaK01
import Derived.Test.YtefjicdhccfieaaProg
import Derived.Test.YtefjicdhccfieaaK02
import Derived.Deep.RegionHeld3
import Derived.Deep.Cut
set_option maxRecDepth 100000
set_option maxHeartbeats 16000000
namespace Go.Proofs.Ytefjicdhccfieaa
inductive Der (F : List (List Int)) (A : Int → Prop) : Int → Prop
 | asm {l : Int} : A l → Der F A l
 | unit {c : List Int} {l : Int} : c ∈ F → l ∈ c → (∀ m, m ∈ c → m ≠ l → Der F A (-m)) → Der F A l
def Clash (F : List (List Int)) (A : Int → Prop) : Prop := ∃ c, c ∈ F ∧ ∀ m, m ∈ c → Der F A (-m)
theorem Der.mono {F F' : List (List Int)} {A A' : Int → Prop} (hF : ∀ c, c ∈ F → c ∈ F') (hA : ∀ l, A l → A' l) {l : Int} (h : Der F A l) : Der F' A' l := by
 induction h with
 | asm h => exact .asm (hA _ h)
 | unit h1 h2 _ ih => exact .unit (hF _ h1) h2 ih
theorem Clash.mono {F F' : List (List Int)} {A A' : Int → Prop} (hF : ∀ c, c ∈ F → c ∈ F') (hA : ∀ l, A l → A' l) (h : Clash F A) : Clash F' A' := by
 obtain ⟨c, h1, h2⟩ := h
 exact ⟨c, hF c h1, fun m hm => (h2 m hm).mono hF hA⟩
def ClosedS (F : List (List Int)) (S : Int → Prop) : Prop := ∀ c, c ∈ F → ∀ l, l ∈ c → (∀ m, m ∈ c → m ≠ l → S (-m)) → S l
theorem Der.closed {F : List (List Int)} {A S : Int → Prop} (hS : ClosedS F S) (hA : ∀ l, A l → S l) {l : Int} (h : Der F A l) : S l := by
 induction h with
 | asm h => exact hA _ h
 | unit h1 h2 _ ih => exact hS _ h1 _ h2 ih
def Cons (S : Int → Prop) : Prop := ∀ l, S l → S (-l) → False
def Rests (S : Int → Prop) (d : List Int) : Prop := (∃ l, l ∈ d ∧ S l) ∨ ∃ a b, a ∈ d ∧ b ∈ d ∧ a ≠ b ∧ ¬ S (-a) ∧ ¬ S (-b)
def Kept (L : Int → Prop) (c d : List Int) : Prop := (∀ m, m ∈ d → m ∈ c) ∧ ∀ m, m ∈ c → m ∉ d → L (-m)
def ToldC (L : Int → Prop) (D : List (List Int)) (c : List Int) : Prop := (∃ l, l ∈ c ∧ L l) ∨ (∃ l, l ∈ c ∧ -l ∈ c) ∨ ∃ d, d ∈ D ∧ Kept L c d
structure Book (F D : List (List Int)) (L : Int → Prop) : Prop where
 sound : ∀ l, L l → Der F (fun _ => False) l
 told : ∀ c, c ∈ F → ToldC L D c
 from_ : ∀ d, d ∈ D → ∃ c, c ∈ F ∧ Kept L c d
 nz : ∀ c, c ∈ F → ∀ l, l ∈ c → l ≠ 0
theorem rests_closed {F D : List (List Int)} {L S : Int → Prop} (hb : Book F D L) (hL : ∀ l, L l → S l) (hc : Cons S) (hr : ∀ d, d ∈ D → Rests S d) : ClosedS F S := by
 intro c hcF l hl hm
 rcases hb.told c hcF with ⟨k, hk, hkL⟩ | ⟨k, hk, hk2⟩ | ⟨d, hd, hd1, hd2⟩
 ·by_cases e : k = l
  ·rw [← e]; exact hL k hkL
  ·exact absurd (hm k hk e) (fun h => hc k (hL k hkL) h)
 ·by_cases e : k = l
  ·subst e
   have e2 : -k ≠ k := by have := hb.nz c hcF k hk; omega
   have := hm (-k) hk2 e2
   rw [Int.neg_neg] at this
   exact this
  ·by_cases e2 : -k = l
   ·rw [← e2]; exact hm k hk e
   ·have h1 := hm k hk e
    have h2 := hm (-k) hk2 e2
    exact absurd h2 (fun h => hc (-k) h1 h)
 ·rcases hr d hd with ⟨k, hk, hkS⟩ | ⟨a, b, ha, hb', hab, hna, hnb⟩
  ·by_cases e : k = l
   ·rw [← e]; exact hkS
   ·exact absurd (hm k (hd1 k hk) e) (fun h => hc k hkS h)
  ·by_cases e : a = l
   ·have : b ≠ l := fun e2 => hab (by rw [e, e2])
    exact absurd (hm b (hd1 b hb') this) hnb
   ·exact absurd (hm a (hd1 a ha) e) hna
theorem rests_quiet {F D : List (List Int)} {L A S : Int → Prop} (hb : Book F D L) (hL : ∀ l, L l → S l) (hA : ∀ l, A l → S l) (hc : Cons S) (hr : ∀ d, d ∈ D → Rests S d) : ¬ Clash F A := by
 rintro ⟨c, hcF, hm⟩
 have hcl := rests_closed hb hL hc hr
 have hS : ∀ m, m ∈ c → S (-m) := fun m h => (hm m h).closed hcl hA
 rcases hb.told c hcF with ⟨k, hk, hkL⟩ | ⟨k, hk, hk2⟩ | ⟨d, hd, hd1, hd2⟩
 ·exact hc k (hL k hkL) (hS k hk)
 ·have h1 := hS k hk
  have h2 := hS (-k) hk2
  exact hc (-k) h1 h2
 ·rcases hr d hd with ⟨k, hk, hkS⟩ | ⟨a, b, ha, _, _, hna, _⟩
  ·exact hc k hkS (hS k (hd1 k hk))
  ·exact hna (hS a (hd1 a ha))
theorem Book.der {F D : List (List Int)} {L A : Int → Prop} (hb : Book F D L) {l : Int} (h : L l) : Der F A l := (hb.sound l h).mono (fun _ h => h) (fun _ h => h.elim)
theorem Book.unit {F D : List (List Int)} {L A : Int → Prop} (hb : Book F D L) {d : List Int} (hd : d ∈ D) {l : Int} (hl : l ∈ d) (hm : ∀ m, m ∈ d → m ≠ l → Der F A (-m)) : Der F A l := by
 obtain ⟨c, hc, h1, h2⟩ := hb.from_ d hd
 refine .unit hc (h1 l hl) (fun m hmc hml => ?_)
 by_cases hmd : m ∈ d
 ·exact hm m hmd hml
 ·exact hb.der (h2 m hmc hmd)
theorem Book.clash {F D : List (List Int)} {L A : Int → Prop} (hb : Book F D L) {d : List Int} (hd : d ∈ D) (hm : ∀ m, m ∈ d → Der F A (-m)) : Clash F A := by
 obtain ⟨c, hc, h1, h2⟩ := hb.from_ d hd
 refine ⟨c, hc, fun m hmc => ?_⟩
 by_cases hmd : m ∈ d
 ·exact hm m hmd
 ·exact hb.der (h2 m hmc hmd)
theorem Kept.mono {L L' : Int → Prop} {c d : List Int} (h : Kept L c d) (hL : ∀ l, L l → L' l) : Kept L' c d := ⟨h.1, fun m h1 h2 => hL _ (h.2 m h1 h2)⟩
theorem ToldC.mono {L L' : Int → Prop} {D D' : List (List Int)} {c : List Int} (h : ToldC L D c) (hL : ∀ l, L l → L' l) (hD : ∀ d, d ∈ D → d ∈ D') : ToldC L' D' c := by
 rcases h with ⟨k, h1, h2⟩ | h | ⟨d, h1, h2⟩
 ·exact .inl ⟨k, h1, hL k h2⟩
 ·exact .inr (.inl h)
 ·exact .inr (.inr ⟨d, hD d h1, h2.mono hL⟩)
def Alike2 (D D' : List (List Int)) : Prop := (∀ d, d ∈ D → ∃ e, e ∈ D' ∧ ∀ m, m ∈ d ↔ m ∈ e) ∧ ∀ e, e ∈ D' → ∃ d, d ∈ D ∧ ∀ m, m ∈ d ↔ m ∈ e
theorem Kept.like {L : Int → Prop} {c d e : List Int} (h : Kept L c d) (he : ∀ m, m ∈ d ↔ m ∈ e) : Kept L c e := ⟨fun m hm => h.1 m ((he m).2 hm), fun m h1 h2 => h.2 m h1 (fun h3 => h2 ((he m).1 h3))⟩
theorem Book.like {F D D' : List (List Int)} {L : Int → Prop} (hb : Book F D L) (h : Alike2 D D') : Book F D' L := by
 refine ⟨hb.sound, fun c hc => ?_, fun e he => ?_, hb.nz⟩
 ·rcases hb.told c hc with h1 | h1 | ⟨d, h1, h2⟩
  ·exact .inl h1
  ·exact .inr (.inl h1)
  ·obtain ⟨e, he, hde⟩ := h.1 d h1
   exact .inr (.inr ⟨e, he, h2.like hde⟩)
 ·obtain ⟨d, hd, hde⟩ := h.2 e he
  obtain ⟨c, hc, hk⟩ := hb.from_ d hd
  exact ⟨c, hc, hk.like hde⟩
theorem Book.nil : Book [] [] (fun _ => False) := ⟨fun _ h => h.elim, fun _ h => by (cases h), fun _ h => by (cases h), fun _ h => by (cases h)⟩
theorem Book.more {F D : List (List Int)} {L L' : Int → Prop} (hb : Book F D L) (hL : ∀ l, L l → L' l) (hs : ∀ l, L' l → Der F (fun _ => False) l) : Book F D L' :=
 ⟨hs, fun c hc => (hb.told c hc).mono hL (fun _ h => h), fun d hd => by
  obtain ⟨c, hc, hk⟩ := hb.from_ d hd
  exact ⟨c, hc, hk.mono hL⟩, hb.nz⟩
theorem Book.add {F D : List (List Int)} {L : Int → Prop} (hb : Book F D L) {c : List Int} (hc : ToldC L D c) (h0 : ∀ l, l ∈ c → l ≠ 0) : Book (F ++ [c]) D L := by
 refine ⟨fun l hl => (hb.sound l hl).mono (fun x hx => List.mem_append_left _ hx) (fun _ h => h), fun x hx => ?_, fun d hd => ?_, fun x hx => ?_⟩
 ·rcases List.mem_append.1 hx with h | h
  ·exact hb.told x h
  ·rw [List.mem_singleton.1 h]; exact hc
 ·obtain ⟨x, hx, hk⟩ := hb.from_ d hd
  exact ⟨x, List.mem_append_left _ hx, hk⟩
 ·rcases List.mem_append.1 hx with h | h
  ·exact hb.nz x h
  ·rw [List.mem_singleton.1 h]; exact h0
theorem Book.keep {F D : List (List Int)} {L : Int → Prop} (hb : Book F D L) {c d : List Int} (hk : Kept L c d) (h0 : ∀ l, l ∈ c → l ≠ 0) : Book (F ++ [c]) (D ++ [d]) L := by
 refine ⟨fun l hl => (hb.sound l hl).mono (fun x hx => List.mem_append_left _ hx) (fun _ h => h), fun x hx => ?_, fun e he => ?_, fun x hx => ?_⟩
 ·rcases List.mem_append.1 hx with h | h
  ·exact (hb.told x h).mono (fun _ h => h) (fun _ h => List.mem_append_left _ h)
  ·rw [List.mem_singleton.1 h]
   exact .inr (.inr ⟨d, by simp, hk⟩)
 ·rcases List.mem_append.1 he with h | h
  ·obtain ⟨x, hx, hk⟩ := hb.from_ e h
   exact ⟨x, List.mem_append_left _ hx, hk⟩
  ·rw [List.mem_singleton.1 h]
   exact ⟨c, by simp, hk⟩
 ·rcases List.mem_append.1 hx with h | h
  ·exact hb.nz x h
  ·rw [List.mem_singleton.1 h]; exact h0
def Fol (F : List (List Int)) (c : List Int) : Prop := (∃ l, l ∈ c ∧ -l ∈ c) ∨ Clash F (fun l => -l ∈ c)
theorem fol_done {F : List (List Int)} {c : List Int} (h : Clash F (fun _ => False)) : Fol F c := .inr (h.mono (fun _ h => h) (fun _ h => h.elim))
end Go.Proofs.Ytefjicdhccfieaa

set_option maxRecDepth 100000
set_option maxHeartbeats 16000000
namespace Go.Proofs.Ytefjicdhccfieaa
open Go.RowKit
structure HeldAt (w : World) (hb sb : Nat) (s : List Int) : Prop where
 h : w.cell? ⟨hb, 0, none⟩ = some (.slice (some ⟨sb, 0, none⟩) s.length s.length)
 s : w.heap[sb]? = some (.cells (s.map fun x => Value.int .i64 x).toArray 3 (0, 0))
 hl : hb < w.heap.size
 ne : hb ≠ sb
theorem HeldAt.cell {w : World} {hb sb : Nat} {s : List Int} (h : HeldAt w hb sb s) {i : Nat} {x : Int} (hx : s[i]? = some x) : w.cell? ⟨sb, i, none⟩ = some (.int .i64 x) := by
 simp [World.cell?, h.s, hx]
theorem HeldAt.fz {w : World} {hb sb : Nat} {s : List Int} (h : HeldAt w hb sb s) (i : Nat) : w.frozen? ⟨sb, i, none⟩ = false := by simp [World.frozen?, h.s]
theorem HeldAt.sl {w : World} {hb sb : Nat} {s : List Int} (h : HeldAt w hb sb s) : sb < w.heap.size := by
 have := h.s
 rcases Nat.lt_or_ge sb w.heap.size with h' | h'
 ·exact h'
 ·rw [Array.getElem?_eq_none h'] at this; cases this
theorem HeldAt.to {w w' : World} {hb sb : Nat} {s : List Int} (h : HeldAt w hb sb s) (hbl : Below w.heap.size w w') : HeldAt w' hb sb s :=
 ⟨(hbl.cell (p := ⟨hb, 0, none⟩) h.hl).trans h.h, (hbl.block sb h.sl).trans h.s, Nat.lt_of_lt_of_le h.hl hbl.size, h.ne⟩
end Go.Proofs.Ytefjicdhccfieaa

set_option maxRecDepth 100000
set_option maxHeartbeats 16000000
namespace Go.Proofs.Ytefjicdhccfieaa
open Go.RowKit
theorem gset (w : World) (r j : Nat) (v : Value) : w.grownBy (w.setCell ⟨r, j, none⟩ v) (some r) :=
 ⟨rfl, rfl, rfl, by simp [World.setCell], fun k _ hk => Below.heap_setCell _ _ _ _ (fun e => hk (by rw [e]))⟩
theorem grown_trans' {a b c : World} {r : Nat} (h : a.grownBy b (some r)) (k : b.grownBy c (some r)) : a.grownBy c (some r) :=
 ⟨k.os.trans h.os, k.tape.trans h.tape, k.output.trans h.output, Nat.le_trans h.size k.size, fun x hx hne => (k.block x (Nat.lt_of_lt_of_le hx h.size) hne).trans (h.block x hx hne)⟩
theorem grown_refl' (w : World) (r : Option Nat) : w.grownBy w r := ⟨rfl, rfl, rfl, Nat.le_refl _, fun _ _ _ => rfl⟩
theorem gbel {w w' : World} (h : Below w.heap.size w w') (r : Option Nat) : w.grownBy w' r := ⟨h.os, h.tape, h.output, h.size, fun k hk _ => h.block k hk⟩
theorem set_self {w : World} {b o : Nat} {u : Value} {cs : Array Value} {t : TypeId} (h : w.heap[b]? = some (.cells cs t (0, 0))) : (w.setCell ⟨b, o, none⟩ u).heap[b]? = some (.cells (cs.setIfInBounds o u) t (0, 0)) := by
 simp [World.setCell, Array.getElem?_modify, h]
theorem HeldAt.put {w : World} {hb sb : Nat} {s : List Int} (h : HeldAt w hb sb s) (i : Nat) (x : Int) : HeldAt (w.setCell ⟨sb, i, none⟩ (.int .i64 x)) hb sb (s.set i x) := by
 refine ⟨?_, ?_, by simp [World.setCell]; exact h.hl, h.ne⟩
 ·rw [List.length_set]
  exact (World.cell?_setCell_other (h := fun e => h.ne (by cases e; rfl)) ..).trans h.h
 ·rw [set_self h.s]
  congr 2
  simp [List.map_set]
end Go.Proofs.Ytefjicdhccfieaa
