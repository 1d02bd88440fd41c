import Derived.Test.YtimmmlnememjiaaGreatDoorX
import Derived.Test.YtimmmlnememjiaaGreatDoorX24
import Derived.Test.YtimmmlnememjiaaGreatDoorX27
set_option maxRecDepth 100000
set_option maxHeartbeats 16000000
namespace Go.Proofs.YtimmmlnememjiaaGreatDoor
open Go.RowKit
theorem all_items (M : Nat) : CItems M ∧ CPart M := by
 induction M using Nat.strongRecOn with
 | _ M ih => exact ⟨items_any M (item_any M fun M' h => (ih M' h).2), part_any M fun M' h => (ih M' h).1⟩
theorem items_read (t : ByteArray) {br : Nat} {s : ByteArray} {c : Int} {m : Nat} {w : World} (h : Sx br s w c m) : Calls Tryz.prog 22 #[.pointer (some ⟨br, 0, none⟩), .string t] w (IsPo br s c m w) := (all_items _).1 t br s c m w h (Nat.le_refl _)
def paramTxt (d : BindD) : List UInt8 := d.nm ++ [32, 61, 32] ++ d.te
def modTxt (nm : List UInt8) (ps : List BindD) (qs : List PortD) (its : List UInt8) : List UInt8 :=
 [109, 111, 100, 117, 108, 101, 32] ++ nm ++ [32] ++ hashTxt (ps.map paramTxt) ++ [40] ++ commaTxt (qs.map portTxt) ++ [41, 59, 10] ++ its ++ [101, 110, 100, 109, 111, 100, 117, 108, 101, 10]
abbrev ModD : Type := List Value × List UInt8
def PM (S : Nat → Prop) (w : World) (cs : List Value) (t : List UInt8) : Prop :=
 ∃ (nm : List UInt8) (a : Int) (vp vq vi : Value) (ps : List BindD) (qs : List PortD) (es : List ItemD), cs = [.string (bs nm), .int .i64 a, vp, vq, vi] ∧
  RowOf S w 10 vp (ps.map (fun d : BindD => d.cs)) ∧ (∀ d ∈ ps, PB S w d ∧ d.gv = true) ∧ RowOf S w 19 vq (qs.map (fun d : PortD => d.cs)) ∧ (∀ d ∈ qs, PP S w d) ∧ RowOf S w 65 vi (es.map (fun x : ItemD => x.1)) ∧ (∀ x ∈ es, PI S w x.1 x.2) ∧
  t = modTxt nm ps qs (es.map (fun x : ItemD => x.2)).flatten
def elM : Elt ModD where
 T := 40
 sz := 5
 cells x := x.1
 P S w x := PM S w x.1 x.2
 pos := by decide
 mono h1 h2 h := by
  obtain ⟨nm, a, vp, vq, vi, ps, qs, es, e, r1, p1, r2, p2, r3, p3, ht⟩ := h
  exact ⟨nm, a, vp, vq, vi, ps, qs, es, e, r1.mono h1 h2, fun d hd => ⟨(p1 d hd).1.mono h1 h2, (p1 d hd).2⟩, r2.mono h1 h2, fun d hd => elP.mono h1 h2 (p2 d hd), r3.mono h1 h2, fun x hx => (p3 x hx).mono h1 h2, ht⟩
 strong h := by
  obtain ⟨nm, a, vp, vq, vi, ps, qs, es, e, r1, p1, r2, p2, r3, p3, ht⟩ := h
  exact ⟨nm, a, vp, vq, vi, ps, qs, es, e, r1.strong (by decide), fun d hd => ⟨elB.strong (p1 d hd).1, (p1 d hd).2⟩, r2.strong (by decide), fun d hd => elP.strong (p2 d hd), r3.strong (by decide), fun x hx => (p3 x hx).strong, ht⟩
 len h := by obtain ⟨nm, a, vp, vq, vi, ps, qs, es, e, _⟩ := h; rw [e]; rfl
def MoPost (br : Nat) (s : ByteArray) (c : Int) (m : Nat) (w : World) (e : Ending) (w' : World) : Prop :=
 ∃ cs : Array Value, e = .returned (.agg cs) ∧ cs.size = 5 ∧ (∀ v ∈ cs.toList, v.oneCell' = true) ∧ Kq br w w' ∧ ∃ (c' : Int) (m' : Nat), Sx br s w' c' m' ∧ Adv c m c' m' ∧
  (c' = 0 → ∃ t, PM (fun b => w.heap.size ≤ b) w' cs.toList t ∧ t.length ≤ 4000000 * (m - m'))
theorem comma_snoc_le (l : List (List UInt8)) (t : List UInt8) : (commaTxt (l ++ [t])).length ≤ (commaTxt l).length + t.length + 2 := by
 by_cases h : l = []
 ·subst h; simp [commaTxt]
 ·rw [commaTxt_snoc _ _ h]; simp only [lnA, lnC, lnN]; omega
theorem modTxt_len (nm : List UInt8) (ps : List BindD) (qs : List PortD) (its : List UInt8) : (modTxt nm ps qs its).length ≤ nm.length + (commaTxt (ps.map paramTxt)).length + (commaTxt (qs.map portTxt)).length + its.length + 30 := by
 unfold modTxt hashTxt
 simp only [lnA, lnC, lnN]
 split
 ·simp only [lnN]; omega
 ·simp only [lnA, lnC, lnN]; omega
theorem portTxt_len (d : PortD) : (portTxt d).length ≤ d.nm.length + d.tr.length + 11 := by
 unfold portTxt
 simp only [lnA]
 split
 ·split <;> simp only [lnC, lnN] <;> omega
 ·simp only [lnC, lnN]; omega
theorem po_born {C : Prop} {lo K : Nat} {w : World} {cs : List Value} (h : C → ∃ (nm : List UInt8) (out reg : Bool) (tr : List UInt8), PP (fun b => lo ≤ b) w ⟨cs, nm, out, reg, tr⟩ ∧ nm.length + tr.length + 14 ≤ K) :
  C → ∃ d : PortD, elP.P (fun b => lo ≤ b ∧ b < w.heap.size) w d ∧ (d.cs = cs ∧ d.nm.length + d.tr.length + 14 ≤ K) := fun hc => by
 obtain ⟨nm, out, reg, tr, h1, h2⟩ := h hc; exact ⟨⟨cs, nm, out, reg, tr⟩, elP.strong h1, rfl, h2⟩
theorem po_to {C : Prop} {S : Nat → Prop} {w w' : World} {F : PortD → Prop} (h : C → ∃ d, elP.P S w d ∧ F d) (hb : ∀ k o, S k → w.heap[k]? = some o → w'.heap[k]? = some o) : C → ∃ d, elP.P S w' d ∧ F d := el_to h hb
theorem info40s : (Tryz.prog.info? 40).map (·.size) = some 5 := by kernel_rfl
end Go.Proofs.YtimmmlnememjiaaGreatDoor
