import Derived.Test.YtimmmlnememjiaaGreatDoorX
import Derived.Test.YtimmmlnememjiaaGreatDoorX10
set_option maxRecDepth 100000
set_option maxHeartbeats 16000000
namespace Go.Proofs.YtimmmlnememjiaaGreatDoor
open Go.RowKit
theorem st_case (w : World) (a : Int) (lt : Bool) (nm : ByteArray) (vs : Value) (b capb : Nat) (hb : b < w.heap.size) (k0 a0 op0 wd0 n0 : Int) (nm0 : ByteArray) (sl0 : Value) (t0 : List UInt8) (z0 : t0.length ≤ 1000000000000) (c00 : w.cell? ⟨b, 0, none⟩ = some (.int .i64 k0)) (c01 : w.cell? ⟨b, 1, none⟩ = some (.int .i64 a0)) (c02 : w.cell? ⟨b, 2, none⟩ = some (.int .i64 op0)) (c03 : w.cell? ⟨b, 3, none⟩ = some (.int .i64 wd0)) (c04 : w.cell? ⟨b, 4, none⟩ = some (.int .u64 n0)) (c05 : w.cell? ⟨b, 5, none⟩ = some (.string nm0)) (c06 : w.cell? ⟨b, 6, none⟩ = some (sl0))
  (ih0 : Hid (∀ w', Below w.heap.size w w' → Calls Tryz.prog 29 #[.agg #[.int .i64 k0, .int .i64 a0, .int .i64 op0, .int .i64 wd0, .int .u64 n0, .string nm0, sl0]] w' (StrPost t0 w')))
  (d cap : Nat) (hd : d < w.heap.size) (ar : List ArmD) (hlen : ar.length ≤ 2000000000000) (z : (spaced (ar.map armTxt)).length ≤ 1000000000000)
  (hel : Hid (∀ (i : Nat) (x : ArmD), ar[i]? = some x → ∃ (k a : Int) (lt : Bool) (nm : ByteArray) (xa : Option Addr) (xl xc : Nat) (sa : Option Addr) (sl sc : Nat) (aa : Option Addr) (al ac : Nat) (la : Option Addr) (ll lc : Nat), x.body = [.int .i64 k, .int .i64 a, .bool lt, .string nm, .slice xa xl xc, .slice sa sl sc, .slice aa al ac] ∧ x.vl = .slice la ll lc))
  (hce : Hid (∀ (i : Nat) (x : ArmD), ar[i]? = some x → ∀ (j : Nat) (v : Value), (.bool x.dflt :: x.vl :: x.body)[j]? = some v → w.cell? ⟨d, i * 9 + j, none⟩ = some v))
  (ih : Hid (∀ (i : Nat) (x : ArmD), ar[i]? = some x → ∀ w', Below w.heap.size w w' → Calls Tryz.prog 70 #[.agg x.body.toArray] w' (StrPost x.tb w')))
  (ihc : Hid (∀ (i : Nat) (x : ArmD), ar[i]? = some x → x.dflt = false → ∀ w', Below w.heap.size w w' → Calls Tryz.prog 50 #[x.vl] w' (StrPost (commaTxt (x.labels.map (·.2.2))) w'))) :
  Calls Tryz.prog 70 #[.agg #[.int .i64 4, .int .i64 a, .bool lt, .string nm, .slice (some ⟨b, 0, none⟩) 1 capb, vs, .slice (some ⟨d, 0, none⟩) ar.length cap]] w (StrPost ([99, 97, 115, 101, 32, 40] ++ t0 ++ [41, 32] ++ spaced (ar.map armTxt) ++ [101, 110, 100, 99, 97, 115, 101]) w) := by
 obtain ⟨x1, H1, l1, s1⟩ := add_to ⟨#[99, 97, 115, 101, 32, 40]⟩ (bs t0) [99, 97, 115, 101, 32, 40] t0 rfl rfl (by simp only [lnC, lnN]; omega)
 obtain ⟨x2, H2, l2, s2⟩ := add_to (bs x1) ⟨#[41, 32]⟩ x1 [41, 32] rfl rfl (by simp only [lnC, lnN] at l1 ⊢; omega)
 have hx2 : x2.length ≤ 1000000000010 := by simp only [lnC, lnN] at l1 l2; omega
 have HX2 : Hid (x2 = [99, 97, 115, 101, 32, 40] ++ t0 ++ [41, 32]) := by show x2 = _; rw [H2.out, H1.out]
 clear H1 l1 H2 l2
 go_enter Tryz.func70, Tryz.ntmps70
 go_wp2_with fail
 generalize hW : w.alloc (.cells #[.int .i64 4, .int .i64 a, .bool lt, .string nm, .slice (some ⟨b, 0, none⟩) 1 capb, vs, .slice (some ⟨d, 0, none⟩) ar.length cap] 93) = W
 obtain ⟨y0, yy1, yy2, yy3, yy4, yy5, yy6, HB, hc, hlt, hle⟩ := box_facts hW
 have Y6 := hid yy6
 rw [← hc b 0 hb] at c00; rw [← hc b 1 hb] at c01; rw [← hc b 2 hb] at c02; rw [← hc b 3 hb] at c03; rw [← hc b 4 hb] at c04; rw [← hc b 5 hb] at c05; rw [← hc b 6 hb] at c06
 clear hc hle hW
 go_wp2_with fail
 refine (ih0.out _ HB.out).mono ?_
 rintro e w3 ⟨rfl, hb3⟩
 have HB3 : Hid (Below W.heap.size W w3) := hb3
 clear hb3 c00 c01 c02 c03 c04 c05 c06 y0 yy1 yy2 yy3 yy4 yy5 yy6
 go_wp2_with fail
 go_loopw [6, 7] (fun t i w' => ∃ (k : Nat) (l : List UInt8), k ≤ ar.length ∧ i = .int .i64 k ∧ t = .string (bs l) ∧ Hid (l = x2 ++ spaced ((ar.map armTxt).take k)) ∧ Hid (Below W.heap.size W w')) (fun _ i _ => ar.length - (intOf i).toNat)
 case atStart => exact ⟨0, x2, Nat.zero_le _, rfl, rfl, by show _ = _; simp [spaced], HB3.out⟩
 case round =>
  obtain ⟨k, l, hk, rfl, rfl, HL, HBr⟩ := hrel
  have q6 : wr.cell? ⟨w.heap.size, 6, none⟩ = some (.slice (some ⟨d, 0, none⟩) ar.length cap) := (HBr.out.cell (p := ⟨w.heap.size, 6, none⟩) hlt).trans Y6.out
  have hl : l.length ≤ 2000000000010 := by
   rw [HL.out]; simp only [lnA]
   have := spaced_take (ar.map armTxt) k; omega
  by_cases hlt2 : k < ar.length
  ·obtain ⟨x, hx⟩ : ∃ x, ar[k]? = some x := ⟨ar[k], List.getElem?_eq_getElem hlt2⟩
   have hxt : (ar.map armTxt)[k]'(by simpa using hlt2) = armTxt x := by
    have : ar[k] = x := by rw [List.getElem?_eq_getElem hlt2] at hx; exact Option.some.inj hx
    simp [this]
   have hnx := spaced_next (ar.map armTxt) k (by simpa using hlt2)
   have hz1 := spaced_take (ar.map armTxt) (k + 1)
   rw [hxt] at hnx
   obtain ⟨k1, a1, lt1, nm1, xa, xl, xc, sa, sl, sc, aa, al, ac, la, ll, lc, hcs, hvl⟩ := hel.out k _ hx
   have hwr : Hid (Below w.heap.size w wr) := HB.out.trans (HBr.out.mono HB.out.size)
   have ce := hce.out k _ hx
   have IH : Hid (∀ w', Below w.heap.size w w' → Calls Tryz.prog 70 #[.agg x.body.toArray] w' (StrPost x.tb w')) := ih.out k _ hx
   have IC := hid (ihc.out k _ hx)
   obtain ⟨dd, labels, vl, body, tb⟩ := x
   simp only at hcs ce IH IC hvl
   subst hcs
   subst hvl
   have ce' : ∀ (j : Nat) (v : Value), [.bool dd, .slice la ll lc, .int .i64 k1, .int .i64 a1, .bool lt1, .string nm1, .slice xa xl xc, .slice sa sl sc, .slice aa al ac][j]? = some v → wr.cell? ⟨d, k * 9 + j, none⟩ = some v := fun j v hv => by
    rw [hwr.out.cell (p := ⟨d, k * 9 + j, none⟩) hd]; exact ce j v hv
   have c0 : wr.cell? ⟨d, k * 9, none⟩ = _ := ce' 0 _ rfl
   have c1 := ce' 1 _ rfl
   have c2 := ce' 2 _ rfl
   have c3 := ce' 3 _ rfl
   have c4 := ce' 4 _ rfl
   have c5 := ce' 5 _ rfl
   have c6 := ce' 6 _ rfl
   have c7 := ce' 7 _ rfl
   have c8 := ce' 8 _ rfl
   clear ce ce' hx hxt
   have hza : (armTxt ⟨dd, labels, .slice la ll lc, [.int .i64 k1, .int .i64 a1, .bool lt1, .string nm1, .slice xa xl xc, .slice sa sl sc, .slice aa al ac], tb⟩).length ≤ 1000000000000 := by rw [hnx] at hz1; simp only [lnA] at hz1; omega
   cases dd
   case true =>
    simp only [armTxt, if_true, lnA, lnC, lnN] at hza
    obtain ⟨u1, G1, m1, r1⟩ := add_to (bs l) ⟨#[100, 101, 102, 97, 117, 108, 116]⟩ l [100, 101, 102, 97, 117, 108, 116] rfl rfl (by simp only [lnC, lnN]; omega)
    obtain ⟨u2, G2, m2, r2⟩ := add_to (bs u1) ⟨#[58, 32]⟩ u1 [58, 32] rfl rfl (by simp only [lnC, lnN] at m1 ⊢; omega)
    obtain ⟨u3, G3, m3, r3⟩ := add_to (bs u2) (bs tb) u2 tb rfl rfl (by simp only [lnC, lnN] at m1 m2; omega)
    obtain ⟨u4, G4, m4, r4⟩ := add_to (bs u3) ⟨#[32]⟩ u3 [32] rfl rfl (by simp only [lnC, lnN] at m1 m2 ⊢; omega)
    have HN : Hid (u4 = x2 ++ spaced ((ar.map armTxt).take (k + 1))) := by
     show u4 = _; rw [G4.out, G3.out, G2.out, G1.out, hnx, HL.out]; simp only [armTxt, if_true, List.append_assoc]
    clear hnx hz1 G1 m1 G2 m2 G3 m3 G4 m4 hl hza IC
    go_wp2_with fail
    refine (IH.out _ (hwr.out.trans (((Below.refl _ _).alloc (Nat.le_refl _) _).mono hwr.out.size))).mono ?_
    rintro e w5 ⟨rfl, hb5⟩
    have hB5 : Hid (Below W.heap.size W w5) := HBr.out.trans (Below.mono (((Below.refl _ _).alloc (Nat.le_refl _) _).trans (hb5.mono (by simp))) HBr.out.size)
    clear hb5
    go_wp2_with fail
    exact ⟨⟨k + 1, u4, by omega, by go_num, rfl, HN, hB5.out⟩, by simp [intOf]; omega⟩
   case false =>
    have IC2 := hid (IC.out rfl)
    clear IC
    simp only [armTxt, Bool.false_eq_true, if_false, lnA, lnC, lnN] at hza
    obtain ⟨tc, HTC⟩ : ∃ tc, Hid (tc = commaTxt (labels.map (·.2.2))) := ⟨_, rfl⟩
    rw [← HTC.out] at hza
    have IC3 : Hid (∀ w', Below w.heap.size w w' → Calls Tryz.prog 50 #[.slice la ll lc] w' (StrPost tc w')) := by rw [HTC.out]; exact IC2.out
    clear IC2
    obtain ⟨u1, G1, m1, r1⟩ := add_to (bs l) (bs tc) l tc rfl rfl (by omega)
    obtain ⟨u2, G2, m2, r2⟩ := add_to (bs u1) ⟨#[58, 32]⟩ u1 [58, 32] rfl rfl (by simp only [lnC, lnN]; omega)
    obtain ⟨u3, G3, m3, r3⟩ := add_to (bs u2) (bs tb) u2 tb rfl rfl (by simp only [lnC, lnN] at m2; omega)
    obtain ⟨u4, G4, m4, r4⟩ := add_to (bs u3) ⟨#[32]⟩ u3 [32] rfl rfl (by simp only [lnC, lnN] at m2 ⊢; omega)
    have HN : Hid (u4 = x2 ++ spaced ((ar.map armTxt).take (k + 1))) := by
     show u4 = _; rw [G4.out, G3.out, G2.out, G1.out, hnx, HL.out, HTC.out]; simp only [armTxt, Bool.false_eq_true, if_false, List.append_assoc]
    clear hnx hz1 G1 m1 G2 m2 G3 m3 G4 m4 hl hza HTC
    go_wp2_with fail
    generalize hA : wr.alloc (.cells _ 127) = wb
    have HAb : Hid (Below wr.heap.size wr wb) := by rw [← hA]; exact (Below.refl _ _).alloc (Nat.le_refl _) _
    have hlb : wr.heap.size < wb.heap.size := by rw [← hA]; simp
    have QB : Hid (∀ o, wb.cell? ⟨wr.heap.size, o, none⟩ = (#[.bool false, .slice la ll lc, .int .i64 k1, .int .i64 a1, .bool lt1, .string nm1, .slice xa xl xc, .slice sa sl sc, .slice aa al ac] : Array Value)[o]?) := by
     rw [← hA]; intro o; simp
    clear hA
    refine (IC3.out _ (hwr.out.trans (HAb.out.mono hwr.out.size))).mono ?_
    rintro e w4 ⟨rfl, hb4⟩
    have qc : ∀ o, w4.cell? ⟨wr.heap.size, o, none⟩ = (#[.bool false, .slice la ll lc, .int .i64 k1, .int .i64 a1, .bool lt1, .string nm1, .slice xa xl xc, .slice sa sl sc, .slice aa al ac] : Array Value)[o]? := fun o => (hb4.cell (p := ⟨wr.heap.size, o, none⟩) hlb).trans (QB.out o)
    have HB4 : Hid (Below wr.heap.size wr w4) := HAb.out.trans (hb4.mono (by omega))
    clear hb4 QB
    go_wp2_with fail
    refine (IH.out _ (hwr.out.trans (HB4.out.mono hwr.out.size))).mono ?_
    rintro e w5 ⟨rfl, hb5⟩
    have hB5 : Hid (Below W.heap.size W w5) := HBr.out.trans (Below.mono (HB4.out.trans (hb5.mono HB4.out.size)) HBr.out.size)
    clear hb5 qc
    go_wp2_with fail
    exact ⟨⟨k + 1, u4, by omega, by go_num, rfl, HN, hB5.out⟩, by simp [intOf]; omega⟩
  ·obtain ⟨u1, G1, m1, r1⟩ := add_to (bs l) ⟨#[101, 110, 100, 99, 97, 115, 101]⟩ l [101, 110, 100, 99, 97, 115, 101] rfl rfl (by simp only [lnC, lnN]; omega)
   have HF : Hid (u1 = [99, 97, 115, 101, 32, 40] ++ t0 ++ [41, 32] ++ spaced (ar.map armTxt) ++ [101, 110, 100, 99, 97, 115, 101]) := by
    show u1 = _; rw [G1.out, HL.out, HX2.out, List.take_of_length_le (by simp; omega)]
   clear G1 m1 hl
   go_wp2_with fail
   go_ret
   exact ⟨ret_str (congrArg bs HF.out), HB.out.trans (HBr.out.mono HB.out.size)⟩
theorem st_case0 (w : World) (a : Int) (lt : Bool) (nm : ByteArray) (vs : Value) (b capb : Nat) (hb : b < w.heap.size) (k0 a0 op0 wd0 n0 : Int) (nm0 : ByteArray) (sl0 : Value) (t0 : List UInt8) (z0 : t0.length ≤ 1000000000000) (c00 : w.cell? ⟨b, 0, none⟩ = some (.int .i64 k0)) (c01 : w.cell? ⟨b, 1, none⟩ = some (.int .i64 a0)) (c02 : w.cell? ⟨b, 2, none⟩ = some (.int .i64 op0)) (c03 : w.cell? ⟨b, 3, none⟩ = some (.int .i64 wd0)) (c04 : w.cell? ⟨b, 4, none⟩ = some (.int .u64 n0)) (c05 : w.cell? ⟨b, 5, none⟩ = some (.string nm0)) (c06 : w.cell? ⟨b, 6, none⟩ = some (sl0))
  (ih0 : Hid (∀ w', Below w.heap.size w w' → Calls Tryz.prog 29 #[.agg #[.int .i64 k0, .int .i64 a0, .int .i64 op0, .int .i64 wd0, .int .u64 n0, .string nm0, sl0]] w' (StrPost t0 w'))) :
  Calls Tryz.prog 70 #[.agg #[.int .i64 4, .int .i64 a, .bool lt, .string nm, .slice (some ⟨b, 0, none⟩) 1 capb, vs, .slice none 0 0]] w (StrPost ([99, 97, 115, 101, 32, 40] ++ t0 ++ [41, 32] ++ spaced [] ++ [101, 110, 100, 99, 97, 115, 101]) w) := by
 obtain ⟨x1, H1, l1, s1⟩ := add_to ⟨#[99, 97, 115, 101, 32, 40]⟩ (bs t0) [99, 97, 115, 101, 32, 40] t0 rfl rfl (by simp only [lnC, lnN]; omega)
 obtain ⟨x2, H2, l2, s2⟩ := add_to (bs x1) ⟨#[41, 32]⟩ x1 [41, 32] rfl rfl (by simp only [lnC, lnN] at l1 ⊢; omega)
 have hx2 : x2.length ≤ 1000000000010 := by simp only [lnC, lnN] at l1 l2; omega
 have HX2 : Hid (x2 = [99, 97, 115, 101, 32, 40] ++ t0 ++ [41, 32]) := by show x2 = _; rw [H2.out, H1.out]
 clear H1 l1 H2 l2
 obtain ⟨u1, G1, m1, r1⟩ := add_to (bs x2) ⟨#[101, 110, 100, 99, 97, 115, 101]⟩ x2 [101, 110, 100, 99, 97, 115, 101] rfl rfl (by simp only [lnC, lnN]; omega)
 go_enter Tryz.func70, Tryz.ntmps70
 go_wp2_with fail
 generalize hW : w.alloc (.cells #[.int .i64 4, .int .i64 a, .bool lt, .string nm, .slice (some ⟨b, 0, none⟩) 1 capb, vs, .slice none 0 0] 93) = W
 obtain ⟨y0, yy1, yy2, yy3, yy4, yy5, yy6, HB, hc, hlt, hle⟩ := box_facts hW
 have Y6 := hid yy6
 rw [← hc b 0 hb] at c00; rw [← hc b 1 hb] at c01; rw [← hc b 2 hb] at c02; rw [← hc b 3 hb] at c03; rw [← hc b 4 hb] at c04; rw [← hc b 5 hb] at c05; rw [← hc b 6 hb] at c06
 clear hc hle hW
 go_wp2_with fail
 refine (ih0.out _ HB.out).mono ?_
 rintro e w3 ⟨rfl, hb3⟩
 have HB3 : Hid (Below W.heap.size W w3) := hb3
 clear hb3 c00 c01 c02 c03 c04 c05 c06 y0 yy1 yy2 yy3 yy4 yy5 yy6
 go_wp2_with fail
 go_loopw [6, 7] (fun t i w' => i = .int .i64 0 ∧ t = .string (bs x2) ∧ Hid (Below W.heap.size W w')) (fun _ _ _ => 0)
 case atStart => exact ⟨rfl, rfl, HB3.out⟩
 case round =>
  obtain ⟨rfl, rfl, HBr⟩ := hrel
  have q6 : wr.cell? ⟨w.heap.size, 6, none⟩ = some (.slice none 0 0) := (HBr.out.cell (p := ⟨w.heap.size, 6, none⟩) hlt).trans Y6.out
  go_wp2_with fail
  go_ret
  exact ⟨ret_str (congrArg bs (by rw [G1.out, HX2.out]; simp [spaced])), HB.out.trans (HBr.out.mono HB.out.size)⟩
theorem RowOf.nth {S : Nat → Prop} {w w1 : World} {sz : Nat} {v : Value} {xs : List (List Value)} (hS : ∀ b, S b → b < w.heap.size) (hw : Below w.heap.size w w1) (h : RowOf S w sz v xs) (hn : xs ≠ []) :
  ∃ b cap, v = .slice (some ⟨b, 0, none⟩) xs.length cap ∧ b < w1.heap.size ∧ ∀ i x, xs[i]? = some x → ∀ j u, x[j]? = some u → w1.cell? ⟨b, i * sz + j, none⟩ = some u := by
 rcases h with ⟨_, h0⟩ | ⟨b, cap, hv, hb, _, _, hx⟩
 ·exact absurd h0 hn
 ·have hlt := hS b hb
  refine ⟨b, cap, hv, Nat.lt_of_lt_of_le hlt hw.size, fun i x hi j u hu => ?_⟩
  rw [hw.cell (p := ⟨b, i * sz + j, none⟩) hlt]
  exact (hx i x hi).2 j u hu
theorem RowOf.sl {S : Nat → Prop} {w : World} {sz : Nat} {v : Value} {xs : List (List Value)} (h : RowOf S w sz v xs) : ∃ sa sl sc, v = .slice sa sl sc := by
 rcases h with ⟨h0, _⟩ | ⟨b, cap, hv, _⟩
 ·exact ⟨_, _, _, h0⟩
 ·exact ⟨_, _, _, hv⟩
theorem PS.form {S : Nat → Prop} {w : World} {cs : List Value} {t : List UInt8} (h : PS S w cs t) : ∃ (k a : Int) (lt : Bool) (nm : ByteArray) (xa : Option Addr) (xl xc : Nat) (sa : Option Addr) (sl sc : Nat) (aa : Option Addr) (al ac : Nat), cs = [.int .i64 k, .int .i64 a, .bool lt, .string nm, .slice xa xl xc, .slice sa sl sc, .slice aa al ac] := by
 cases h with
 | node k a later nm xs vx ss vs ar va hk hx hxe hs hse ha hal hab =>
  obtain ⟨xa, xl, xc, rfl⟩ := hx.sl
  obtain ⟨sa, sl, sc, rfl⟩ := hs.sl
  obtain ⟨aa, al, ac, rfl⟩ := ha.sl
  exact ⟨k, a, later, bs nm, xa, xl, xc, sa, sl, sc, aa, al, ac, rfl⟩
theorem spaced_cons (x : List UInt8) (r : List (List UInt8)) : (spaced (x :: r)).length = x.length + 1 + (spaced r).length := by
 show ((x ++ [32]) ++ spaced r).length = _
 simp only [lnA, lnC, lnN]
theorem spaced_mem {l : List (List UInt8)} {i : Nat} {t : List UInt8} (h : l[i]? = some t) : t.length ≤ (spaced l).length := by
 induction l generalizing i with
 | nil => simp at h
 | cons x r ih =>
  rw [spaced_cons]
  cases i with
  | zero => simp at h; subst h; omega
  | succ i => have := ih (by simpa using h); omega
theorem spaced_count (l : List (List UInt8)) : l.length ≤ (spaced l).length := by
 induction l with
 | nil => simp
 | cons x r ih => rw [spaced_cons]; simp only [lnC]; omega
theorem comma_count (l : List (List UInt8)) : l.length ≤ (commaTxt l).length + 1 := by
 induction l with
 | nil => simp
 | cons x r ih =>
  cases r with
  | nil => simp
  | cons y r' => rw [commaTxt_cons]; simp only [lnA, lnC, lnN] at ih ⊢; omega
theorem comma_row {S : Nat → Prop} {w : World} (hS : ∀ b, S b → b < w.heap.size) {v : Value} {es : List Ele} (hr : RowOf S w 7 v (es.map (·.2.1))) (he : ∀ x ∈ es, PE S w x.1 x.2.1 x.2.2) (hn : es ≠ []) (hl : es.length ≤ 2000000000000) (z : (commaTxt (es.map (·.2.2))).length ≤ 400000000000) :
  ∀ w1, Below w.heap.size w w1 → Calls Tryz.prog 50 #[v] w1 (StrPost (commaTxt (es.map (·.2.2))) w1) := by
 intro w1 hw
 obtain ⟨b, cap, rfl, hb, hc⟩ := hr.nth hS hw (by simpa using hn)
 rw [List.length_map]
 have key := comma_any w1 b cap hb es hl (Nat.le_trans z (by decide)) (fun i x hx => (he x (List.mem_of_getElem? hx)).seven) (fun i x hx j u hu => hc i x.2.1 (by rw [List.getElem?_map, hx]; rfl) j u hu)
  (fun i x hx w' hw' => printExpr_any hS (he x (List.mem_of_getElem? hx)) (Nat.le_trans (commaTxt_mem _ _ (List.mem_map.2 ⟨x, List.mem_of_getElem? hx, rfl⟩)) (Nat.le_trans z (by decide))) w' (hw.trans (hw'.mono hw.size))) w1 (Below.refl _ _)
 exact key
theorem printStmt_any {S : Nat → Prop} {w : World} (hS : ∀ b, S b → b < w.heap.size) {cs : List Value} {t : List UInt8} (h : PS S w cs t) (ht : t.length ≤ 400000000000) :
  ∀ w1, Below w.heap.size w w1 → Calls Tryz.prog 70 #[.agg cs.toArray] w1 (StrPost t w1) := by
 induction h with
 | node k a later nm xs vx ss vs ar va hk hx hxe hs hse ha hal hab ihs iha =>
  intro w1 hw
  have L : ∀ w', Below w1.heap.size w1 w' → Below w.heap.size w w' := fun w' h => hw.trans (h.mono hw.size)
  rcases hk with ⟨rfl, hl, hn, har⟩ | ⟨rfl, hl, har⟩ | ⟨rfl, hl, hn, har⟩ | ⟨rfl, hl, hn, har⟩ | ⟨rfl, hl, hn, har⟩ | ⟨rfl, hl, hn, har⟩
  ·exact st_none w1 a later (bs nm) vx vs va
  ·by_cases hss : ss = []
   ·subst hss
    rcases hs with ⟨rfl, _⟩ | ⟨b, cap, _, _, _, hne, _⟩
    ·exact st_block0 w1 a later (bs nm) vx va
    ·exact absurd rfl hne
   ·obtain ⟨d, cap, rfl, hd, hc⟩ := hs.nth hS hw (by simpa using hss)
    have e : stTxt 2 later nm (xs.map (fun x => x.2.2)) (ss.map (fun x => x.2)) (ar.map armTxt) = [98, 101, 103, 105, 110, 32] ++ spaced (ss.map (fun x => x.2)) ++ [101, 110, 100] := rfl
    rw [e] at ht ⊢
    simp only [lnA] at ht
    rw [List.length_map]
    have hlen : ss.length ≤ 2000000000000 := by
     have := spaced_count (ss.map (fun x => x.2)); rw [List.length_map] at this; omega
    exact st_block w1 a later (bs nm) vx va d cap hd ss hlen (by omega) (fun i x hx => by
      obtain ⟨k, a, lt, nm, xa, xl, xc, sa, sl, sc, aa, al, ac, e⟩ := (hse i x hx).form
      exact ⟨k, a, lt, nm, _, _, _, e⟩)
     (fun i x hx j u hu => hc i x.1 (by rw [List.getElem?_map, hx]; rfl) j u hu)
     (fun i x hx w' hw' => ihs i x hx (by have := spaced_mem (l := ss.map (fun x => x.2)) (i := i) (t := x.2) (by rw [List.getElem?_map, hx]; rfl); omega) w' (L w' hw'))
  ·obtain ⟨x, rfl⟩ := List.length_eq_one_iff.1 hl
   obtain ⟨b, capb, rfl, hb, hcb⟩ := hx.nth hS hw (by simp)
   obtain ⟨a0, op0, wd0, n0, nm0, sl0, hx0⟩ := (hxe x (by simp)).seven
   have cb := hcb 0 x.2.1 rfl
   rw [hx0] at cb
   have ih0 := fun (z : x.2.2.length ≤ 500000000000) => printExpr_any hS (hxe x (by simp)) z
   rw [hx0] at ih0
   rcases hn with hn | hn
   ·obtain ⟨s1, rfl⟩ := List.length_eq_one_iff.1 hn
    obtain ⟨d, capd, rfl, hd, hcd⟩ := hs.nth hS hw (by simp)
    obtain ⟨k1, a1, lt1, nm1, xa, xl, xc, sa, sl, sc, aa, al, ac, hs1⟩ := (hse 0 s1 rfl).form
    have cd := hcd 0 s1.1 rfl
    rw [hs1] at cd
    have ih1 := ihs 0 s1 rfl
    rw [hs1] at ih1
    have e : stTxt 3 later nm ([x].map (fun x => x.2.2)) ([s1].map (fun x => x.2)) (ar.map armTxt) = [105, 102, 32, 40] ++ x.2.2 ++ [41, 32] ++ s1.2 := by simp [stTxt]
    rw [e] at ht ⊢
    simp only [lnA] at ht
    exact st_if1 w1 a later (bs nm) va b capb hb d capd hd x.1 a0 op0 wd0 n0 nm0 sl0 x.2.2 (by omega) (cb 0 _ rfl) (cb 1 _ rfl) (cb 2 _ rfl) (cb 3 _ rfl) (cb 4 _ rfl) (cb 5 _ rfl) (cb 6 _ rfl) (fun w' h => ih0 (by omega) w' (L w' h))
     k1 a1 lt1 nm1 _ _ _ s1.2 (by omega) (cd 0 _ rfl) (cd 1 _ rfl) (cd 2 _ rfl) (cd 3 _ rfl) (cd 4 _ rfl) (cd 5 _ rfl) (cd 6 _ rfl) (fun w' h => ih1 (by omega) w' (L w' h)) _ rfl
   ·obtain ⟨s1, s2, rfl⟩ := len_two hn
    obtain ⟨d, capd, rfl, hd, hcd⟩ := hs.nth hS hw (by simp)
    obtain ⟨k1, a1, lt1, nm1, xa, xl, xc, sa, sl, sc, aa, al, ac, hs1⟩ := (hse 0 s1 rfl).form
    obtain ⟨k2, a2, lt2, nm2, xa2, xl2, xc2, sa2, sl2, sc2, aa2, al2, ac2, hs2⟩ := (hse 1 s2 rfl).form
    have cd := hcd 0 s1.1 rfl
    rw [hs1] at cd
    have ce := hcd 1 s2.1 rfl
    rw [hs2] at ce
    have ih1 := ihs 0 s1 rfl
    rw [hs1] at ih1
    have ih2 := ihs 1 s2 rfl
    rw [hs2] at ih2
    have e : stTxt 3 later nm ([x].map (fun x => x.2.2)) ([s1, s2].map (fun x => x.2)) (ar.map armTxt) = [105, 102, 32, 40] ++ x.2.2 ++ [41, 32] ++ s1.2 ++ [32, 101, 108, 115, 101, 32] ++ s2.2 := by simp [stTxt]
    rw [e] at ht ⊢
    simp only [lnA] at ht
    exact st_if2 w1 a later (bs nm) va b capb hb d capd hd x.1 a0 op0 wd0 n0 nm0 sl0 x.2.2 (by omega) (cb 0 _ rfl) (cb 1 _ rfl) (cb 2 _ rfl) (cb 3 _ rfl) (cb 4 _ rfl) (cb 5 _ rfl) (cb 6 _ rfl) (fun w' h => ih0 (by omega) w' (L w' h))
     k1 a1 lt1 nm1 _ _ _ s1.2 (by omega) (cd 0 _ rfl) (cd 1 _ rfl) (cd 2 _ rfl) (cd 3 _ rfl) (cd 4 _ rfl) (cd 5 _ rfl) (cd 6 _ rfl) (fun w' h => ih1 (by omega) w' (L w' h))
     k2 a2 lt2 nm2 _ _ _ s2.2 (by omega) (ce 0 _ rfl) (ce 1 _ rfl) (ce 2 _ rfl) (ce 3 _ rfl) (ce 4 _ rfl) (ce 5 _ rfl) (ce 6 _ rfl) (fun w' h => ih2 (by omega) w' (L w' h)) _ rfl
  ·obtain ⟨x, rfl⟩ := List.length_eq_one_iff.1 hl
   obtain ⟨b, capb, rfl, hb, hcb⟩ := hx.nth hS hw (by simp)
   obtain ⟨a0, op0, wd0, n0, nm0, sl0, hx0⟩ := (hxe x (by simp)).seven
   have cb := hcb 0 x.2.1 rfl
   rw [hx0] at cb
   have ih0 := fun (z : x.2.2.length ≤ 500000000000) => printExpr_any hS (hxe x (by simp)) z
   rw [hx0] at ih0
   have e : stTxt 4 later nm ([x].map (fun x => x.2.2)) (ss.map (fun x => x.2)) (ar.map armTxt) = [99, 97, 115, 101, 32, 40] ++ x.2.2 ++ [41, 32] ++ spaced (ar.map armTxt) ++ [101, 110, 100, 99, 97, 115, 101] := rfl
   rw [e] at ht ⊢
   simp only [lnA] at ht
   by_cases har0 : ar = []
   ·subst har0
    rcases ha with ⟨rfl, _⟩ | ⟨d, cap, _, _, _, hne, _⟩
    ·exact st_case0 w1 a later (bs nm) vs b capb hb x.1 a0 op0 wd0 n0 nm0 sl0 x.2.2 (by omega) (cb 0 _ rfl) (cb 1 _ rfl) (cb 2 _ rfl) (cb 3 _ rfl) (cb 4 _ rfl) (cb 5 _ rfl) (cb 6 _ rfl) (fun w' h => ih0 (by omega) w' (L w' h))
    ·exact absurd rfl hne
   ·obtain ⟨d, cap, rfl, hd, hc⟩ := ha.nth hS hw (by simpa using har0)
    have hlm : (ar.map fun d : ArmD => (Value.bool d.dflt :: d.vl :: d.body)).length = ar.length := List.length_map _
    rw [hlm]
    have hlen := spaced_count (ar.map armTxt)
    rw [List.length_map] at hlen
    have harm : ∀ i y, ar[i]? = some y → (armTxt y).length ≤ (spaced (ar.map armTxt)).length := fun i y hy => spaced_mem (i := i) (by rw [List.getElem?_map, hy]; rfl)
    refine st_case w1 a later (bs nm) vs b capb hb x.1 a0 op0 wd0 n0 nm0 sl0 x.2.2 (by omega) (cb 0 _ rfl) (cb 1 _ rfl) (cb 2 _ rfl) (cb 3 _ rfl) (cb 4 _ rfl) (cb 5 _ rfl) (cb 6 _ rfl) (fun w' h => ih0 (by omega) w' (L w' h)) d cap hd ar (by omega) (by omega) ?_ ?_ ?_ ?_
    ·intro i y hy
     obtain ⟨k1, a1, lt1, nm1, xa, xl, xc, sa, sl, sc, aa, al, ac, e1⟩ := (hab i y hy).form
     obtain ⟨la, ll, lc, e2⟩ := (hal y (List.mem_of_getElem? hy)).1.sl
     exact ⟨k1, a1, lt1, nm1, xa, xl, xc, sa, sl, sc, aa, al, ac, la, ll, lc, e1, e2⟩
    ·intro i y hy j u hu
     exact hc i _ (by rw [List.getElem?_map, hy]; rfl) j u hu
    ·intro i y hy w' hw'
     refine iha i y hy ?_ w' (L w' hw')
     have h1 := harm i y hy
     simp only [armTxt, lnA] at h1
     omega
    ·intro i y hy hf w' hw'
     have h1 := harm i y hy
     simp only [armTxt, hf, Bool.false_eq_true, if_false, lnA] at h1
     have hlab : y.labels ≠ [] := by
      intro e0
      have := har y (List.mem_of_getElem? hy) hf
      rw [e0] at this; simp at this
     have hl2 := comma_count (y.labels.map (·.2.2))
     rw [List.length_map] at hl2
     exact comma_row hS (hal y (List.mem_of_getElem? hy)).1 (hal y (List.mem_of_getElem? hy)).2 hlab (by omega) (by omega) w' (L w' hw')
  ·obtain ⟨x, y, rfl⟩ := len_two hl
   obtain ⟨b, capb, rfl, hb, hcb⟩ := hx.nth hS hw (by simp)
   obtain ⟨a0, op0, wd0, n0, nm0, sl0, hx0⟩ := (hxe x (by simp)).seven
   obtain ⟨a1, op1, wd1, n1, nm1, sl1, hx1⟩ := (hxe y (by simp)).seven
   have cb := hcb 0 x.2.1 rfl
   rw [hx0] at cb
   have cc := hcb 1 y.2.1 rfl
   rw [hx1] at cc
   have ih0 := fun (z : x.2.2.length ≤ 500000000000) => printExpr_any hS (hxe x (by simp)) z
   rw [hx0] at ih0
   have ih1 := fun (z : y.2.2.length ≤ 500000000000) => printExpr_any hS (hxe y (by simp)) z
   rw [hx1] at ih1
   cases later
   ·have e : stTxt 5 false nm ([x, y].map (fun x => x.2.2)) (ss.map (fun x => x.2)) (ar.map armTxt) = x.2.2 ++ [32, 61, 32] ++ y.2.2 ++ [59] := rfl
    rw [e] at ht ⊢
    simp only [lnA] at ht
    exact st_now w1 a (bs nm) vs va b capb hb x.1 a0 op0 wd0 n0 nm0 sl0 x.2.2 (by omega) (cb 0 _ rfl) (cb 1 _ rfl) (cb 2 _ rfl) (cb 3 _ rfl) (cb 4 _ rfl) (cb 5 _ rfl) (cb 6 _ rfl) (fun w' h => ih0 (by omega) w' (L w' h))
     y.1 a1 op1 wd1 n1 nm1 sl1 y.2.2 (by omega) (cc 0 _ rfl) (cc 1 _ rfl) (cc 2 _ rfl) (cc 3 _ rfl) (cc 4 _ rfl) (cc 5 _ rfl) (cc 6 _ rfl) (fun w' h => ih1 (by omega) w' (L w' h)) _ rfl
   ·have e : stTxt 5 true nm ([x, y].map (fun x => x.2.2)) (ss.map (fun x => x.2)) (ar.map armTxt) = x.2.2 ++ [32, 60, 61, 32] ++ y.2.2 ++ [59] := rfl
    rw [e] at ht ⊢
    simp only [lnA] at ht
    exact st_later w1 a (bs nm) vs va b capb hb x.1 a0 op0 wd0 n0 nm0 sl0 x.2.2 (by omega) (cb 0 _ rfl) (cb 1 _ rfl) (cb 2 _ rfl) (cb 3 _ rfl) (cb 4 _ rfl) (cb 5 _ rfl) (cb 6 _ rfl) (fun w' h => ih0 (by omega) w' (L w' h))
     y.1 a1 op1 wd1 n1 nm1 sl1 y.2.2 (by omega) (cc 0 _ rfl) (cc 1 _ rfl) (cc 2 _ rfl) (cc 3 _ rfl) (cc 4 _ rfl) (cc 5 _ rfl) (cc 6 _ rfl) (fun w' h => ih1 (by omega) w' (L w' h)) _ rfl
  ·obtain ⟨x, y, z, rfl⟩ : ∃ x y z, xs = [x, y, z] := by
    match xs, hl with
    | [x, y, z], _ => exact ⟨x, y, z, rfl⟩
   obtain ⟨s1, rfl⟩ := List.length_eq_one_iff.1 hn
   obtain ⟨b, capb, rfl, hb, hcb⟩ := hx.nth hS hw (by simp)
   obtain ⟨d, capd, rfl, hd, hcd⟩ := hs.nth hS hw (by simp)
   obtain ⟨a0, op0, wd0, n0, nm0, sl0, hx0⟩ := (hxe x (by simp)).seven
   obtain ⟨a1, op1, wd1, n1, nm1, sl1, hx1⟩ := (hxe y (by simp)).seven
   obtain ⟨a2, op2, wd2, n2, nm2, sl2, hx2⟩ := (hxe z (by simp)).seven
   obtain ⟨k3, a3, lt3, nm3, xa, xl, xc, sa, sl, sc, aa, al, ac, hs1⟩ := (hse 0 s1 rfl).form
   have cb := hcb 0 x.2.1 rfl
   rw [hx0] at cb
   have cc := hcb 1 y.2.1 rfl
   rw [hx1] at cc
   have cd := hcb 2 z.2.1 rfl
   rw [hx2] at cd
   have ce := hcd 0 s1.1 rfl
   rw [hs1] at ce
   have ih0 := fun (z : x.2.2.length ≤ 500000000000) => printExpr_any hS (hxe x (by simp)) z
   rw [hx0] at ih0
   have ih1 := fun (z : y.2.2.length ≤ 500000000000) => printExpr_any hS (hxe y (by simp)) z
   rw [hx1] at ih1
   have ih2 := fun (z' : z.2.2.length ≤ 500000000000) => printExpr_any hS (hxe z (by simp)) z'
   rw [hx2] at ih2
   have ih3 := ihs 0 s1 rfl
   rw [hs1] at ih3
   have e : stTxt 6 later nm ([x, y, z].map (fun x => x.2.2)) ([s1].map (fun x => x.2)) (ar.map armTxt) = loopTxt nm x.2.2 y.2.2 z.2.2 ++ s1.2 := rfl
   rw [e] at ht ⊢
   have hll : (loopTxt nm x.2.2 y.2.2 z.2.2).length = 2 * nm.length + x.2.2.length + y.2.2.length + z.2.2.length + 17 := by
    simp only [loopTxt, lnA, lnC, lnN]; omega
   simp only [lnA] at ht
   refine st_for w1 a later nm va (loopTxt nm x.2.2 y.2.2 z.2.2) (by omega) b capb hb ?_ d capd hd k3 a3 lt3 nm3 _ _ _ s1.2 (by omega) (ce 0 _ rfl) (ce 1 _ rfl) (ce 2 _ rfl) (ce 3 _ rfl) (ce 4 _ rfl) (ce 5 _ rfl) (ce 6 _ rfl) (fun w' h => ih3 (by omega) w' (L w' h)) _ rfl
   intro w' hw'
   have M : ∀ {o : Nat} {u : Value}, w1.cell? ⟨b, o, none⟩ = some u → w'.cell? ⟨b, o, none⟩ = some u := fun {o u} h => (hw'.cell (p := ⟨b, o, none⟩) hb).trans h
   have L' : ∀ w'', Below w'.heap.size w' w'' → Below w.heap.size w w'' := fun w'' h => L w'' (hw'.trans (h.mono hw'.size))
   exact pr_loop w' nm b capb (Nat.lt_of_lt_of_le hb hw'.size) (by omega)
    x.1 a0 op0 wd0 n0 nm0 sl0 x.2.2 (by omega) (M (cb 0 _ rfl)) (M (cb 1 _ rfl)) (M (cb 2 _ rfl)) (M (cb 3 _ rfl)) (M (cb 4 _ rfl)) (M (cb 5 _ rfl)) (M (cb 6 _ rfl)) (fun w'' h => ih0 (by omega) w'' (L' w'' h))
    y.1 a1 op1 wd1 n1 nm1 sl1 y.2.2 (by omega) (M (cc 0 _ rfl)) (M (cc 1 _ rfl)) (M (cc 2 _ rfl)) (M (cc 3 _ rfl)) (M (cc 4 _ rfl)) (M (cc 5 _ rfl)) (M (cc 6 _ rfl)) (fun w'' h => ih1 (by omega) w'' (L' w'' h))
    z.1 a2 op2 wd2 n2 nm2 sl2 z.2.2 (by omega) (M (cd 0 _ rfl)) (M (cd 1 _ rfl)) (M (cd 2 _ rfl)) (M (cd 3 _ rfl)) (M (cd 4 _ rfl)) (M (cd 5 _ rfl)) (M (cd 6 _ rfl)) (fun w'' h => ih2 (by omega) w'' (L' w'' h)) _ rfl
end Go.Proofs.YtimmmlnememjiaaGreatDoor
