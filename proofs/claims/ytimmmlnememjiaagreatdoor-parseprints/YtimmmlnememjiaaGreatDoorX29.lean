import Derived.Test.YtimmmlnememjiaaGreatDoorX
import Derived.Test.YtimmmlnememjiaaGreatDoorX22
import Derived.Test.YtimmmlnememjiaaGreatDoorX28
set_option maxRecDepth 100000
set_option maxHeartbeats 16000000
namespace Go.Proofs.YtimmmlnememjiaaGreatDoor
open Go.RowKit
theorem mods_text (w1 : World) (b cap : Nat) (hb : b < w1.heap.size) (ds : List (List Value × List UInt8)) (hlen : ds.length ≤ 2000000000000) (z : (ds.map (·.2)).flatten.length ≤ 1000000000000)
  (hel : Hid (∀ (i : Nat) (x : List Value × List UInt8), ds[i]? = some x → x.1.length = 5))
  (hce : Hid (∀ (i : Nat) (x : List Value × List UInt8), ds[i]? = some x → ∀ (j : Nat) (v : Value), x.1[j]? = some v → w1.cell? ⟨b, i * 5 + j, none⟩ = some v))
  (ih : Hid (∀ (i : Nat) (x : List Value × List UInt8), ds[i]? = some x → ∀ w', Below w1.heap.size w1 w' → Calls Tryz.prog 14 #[.agg x.1.toArray] w' (StrPost x.2 w'))) :
  Calls Tryz.prog 8 #[.slice (some ⟨b, 0, none⟩) ds.length cap] w1 (StrPost (ds.map (·.2)).flatten w1) := by
 go_enter Tryz.func8, Tryz.ntmps8
 go_wp2_with fail
 go_loopw [3, 4] (fun s i w' => ∃ (k : Nat) (l : List UInt8), k ≤ ds.length ∧ i = .int .i64 k ∧ s = .string (bs l) ∧ Hid (l = ((ds.map (·.2)).take k).flatten) ∧ Hid (Below w1.heap.size w1 w')) (fun _ i _ => ds.length - (intOf i).toNat)
 case atStart => exact ⟨0, [], Nat.zero_le _, rfl, rfl, by show _ = _; simp, Below.refl _ _⟩
 case round =>
  obtain ⟨k, l, hk, rfl, rfl, HL, HB⟩ := hrel
  have hl : l.length ≤ 1000000000000 := by rw [HL.out]; exact Nat.le_trans (flat_take _ k) z
  by_cases hlt : k < ds.length
  ·obtain ⟨x, hx⟩ : ∃ x, ds[k]? = some x := ⟨ds[k], List.getElem?_eq_getElem hlt⟩
   have hxt : (ds.map (·.2))[k]'(by simpa using hlt) = x.2 := by
    have : ds[k] = x := by rw [List.getElem?_eq_getElem hlt] at hx; exact Option.some.inj hx
    simp [this]
   have hnx := flat_next (ds.map (·.2)) k (by simpa using hlt)
   have hz1 := flat_take (ds.map (·.2)) (k + 1)
   rw [hxt] at hnx
   have HR : Hid (wr.rangeAt b (k * 5) x.1) := fun j v hv => by
    rw [HB.out.cell (p := ⟨b, k * 5 + j, none⟩) hb]; exact hce.out k _ hx j v hv
   have IH := hid (ih.out k _ hx)
   have HS : Hid ((Tryz.prog.info? 40).map (·.size) = some x.1.length) := by show _ = _; rw [hel.out k _ hx]; exact info40s
   obtain ⟨cs, t0⟩ := x
   simp only at hnx HR IH HS
   have hzt : t0.length ≤ 1000000000000 := by rw [hnx] at hz1; simp only [lnA] at hz1; omega
   obtain ⟨x1, H1, l1, s1⟩ := add_to (bs l) (bs t0) l t0 rfl rfl (by omega)
   have HN : Hid (x1 = ((ds.map (·.2)).take (k + 1)).flatten) := by show x1 = _; rw [H1.out, hnx, HL.out]
   clear hnx hz1 H1 l1 hl hx hxt
   go_wp2_with ((with_reducible refine wpList_id ?_); refine wpList_load_mid rfl 40 (.tmp 14) rfl b (k * 5) rfl cs _ HR.out Tryz.underlying40 rfl HS.out ?_)
   refine (IH.out _ HB.out).mono ?_
   rintro e w2 ⟨rfl, hb2⟩
   have hB2 : Hid (Below w1.heap.size w1 w2) := HB.out.trans (hb2.mono HB.out.size)
   clear hb2
   go_wp2_with fail
   exact ⟨⟨k + 1, x1, by omega, by go_num, rfl, HN, hB2.out⟩, by simp [intOf]; omega⟩
  ·have HF : Hid (l = (ds.map (·.2)).flatten) := by show l = _; rw [HL.out, List.take_of_length_le (by simp; omega)]
   go_wp2_with fail
   go_ret
   exact ⟨ret_str (congrArg bs HF.out), HB.out⟩
theorem mods_none (w1 : World) : Calls Tryz.prog 8 #[.slice none 0 0] w1 (StrPost [] w1) := by
 go_enter Tryz.func8, Tryz.ntmps8
 go_wp2_with fail
 go_loopw [3, 4] (fun s i w' => i = .int .i64 0 ∧ s = .string ⟨#[]⟩ ∧ Hid (Below w1.heap.size w1 w')) (fun _ _ _ => 0)
 case atStart => exact ⟨rfl, rfl, Below.refl _ _⟩
 case round =>
  obtain ⟨rfl, rfl, HB⟩ := hrel
  go_wp2_with fail
  go_ret
  exact ⟨rfl, HB.out⟩
def parTxt (ps : List BindD) (k : Nat) : List UInt8 := if k = 0 then [] else [35, 40] ++ commaTxt ((ps.map paramTxt).take k)
theorem parTxt_next (ps : List BindD) (k : Nat) (h : k < ps.length) : parTxt ps (k + 1) = if k = 0 then [35, 40] ++ paramTxt ps[k] else parTxt ps k ++ [44, 32] ++ paramTxt ps[k] := by
 unfold parTxt
 rw [if_neg (by omega), commaTxt_next _ _ (by simpa using h)]
 by_cases hk : k = 0
 ·subst hk; simp
 ·simp [hk]
theorem len15 {l : List Value} (h : l.length = 15) : ∃ r0 r1 r2 r3 r4 r5 r6 r7 r8 r9 r10 r11 r12 r13 r14, l = [r0, r1, r2, r3, r4, r5, r6, r7, r8, r9, r10, r11, r12, r13, r14] := by
 match l, h with
 | [r0, r1, r2, r3, r4, r5, r6, r7, r8, r9, r10, r11, r12, r13, r14], _ => exact ⟨r0, r1, r2, r3, r4, r5, r6, r7, r8, r9, r10, r11, r12, r13, r14, rfl⟩
end Go.Proofs.YtimmmlnememjiaaGreatDoor
