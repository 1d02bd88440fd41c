import Derived.Test.YtimmmlnememjiaaGreatDoorX
import Derived.Test.YtimmmlnememjiaaGreatDoorX30
import Derived.Test.YtimmmlnememjiaaGreatDoorX31
import Derived.Test.YtimmmlnememjiaaGreatDoorX41
set_option maxRecDepth 100000
set_option maxHeartbeats 16000000
namespace Go.Proofs.YtimmmlnememjiaaGreatDoor
open Go.RowKit
theorem PI.pos {S : Nat → Prop} {w : World} {cs : List Value} {t : List UInt8} (h : PI S w cs t) : 1 ≤ t.length := by
 cases h <;> simp [useTxt] <;> omega
theorem mod_here {S : Nat → Prop} {w : World} (hS : ∀ b, S b → b < w.heap.size) {cs : List Value} {t : List UInt8} (h : PM S w cs t) (ht : t.length ≤ 400000000000) :
  Calls Tryz.prog 14 #[.agg cs.toArray] w (StrPost t w) := by
 obtain ⟨nm, a, vp, vq, vi, ps, qs, es, rfl, r1, p1, r2, p2, r3, p3, rfl⟩ := h
 simp only [modTxt, lnA] at ht
 have hhp : (commaTxt (ps.map paramTxt)).length ≤ (hashTxt (ps.map paramTxt)).length := by
  unfold hashTxt; split
  ·rename_i h; rw [h]; simp [commaTxt]
  ·simp only [lnA]; omega
 have hit : ∀ (i : Nat) (d : ItemD), es[i]? = some d → d.2.length ≤ (es.map (fun x : ItemD => x.2)).flatten.length := fun i d hd => qflat_mem (List.mem_map_of_mem (List.mem_of_getElem? hd))
 have hcnt := flat_pos (es.map (fun x : ItemD => x.2)) (fun t ht => by
  obtain ⟨d, hd, rfl⟩ := List.mem_map.1 ht
  exact (p3 d hd).pos)
 rw [List.length_map] at hcnt
 have ihi := printItems_row hS r3 (fun i d hd => (p3 d (List.mem_of_getElem? hd)).big.1) (by omega) (fun i d hd hz => printItem_any hS (p3 d (List.mem_of_getElem? hd)) hz) (by omega)
 obtain ⟨pa, b, cap, rfl, hpa, hc⟩ := r1.slice hS
 obtain ⟨qa, d, capq, rfl, hqa, hcq⟩ := r2.slice hS
 obtain ⟨ia, _, ic, rfl, _, _⟩ := r3.slice hS
 have hl1 : (ps.map (fun d : BindD => d.cs)).length = ps.length := List.length_map _
 have hl2 : (qs.map (fun d : PortD => d.cs)).length = qs.length := List.length_map _
 rw [hl1, hl2]
 have hc1 := commaTxt_count (ps.map paramTxt)
 rw [List.length_map] at hc1
 have hc2 := commaTxt_count (qs.map portTxt)
 rw [List.length_map] at hc2
 have hm1 : ∀ (i : Nat) (x : BindD), ps[i]? = some x → (paramTxt x).length ≤ (commaTxt (ps.map paramTxt)).length := fun i x hx => commaTxt_mem _ _ (List.mem_map_of_mem (List.mem_of_getElem? hx))
 have hm2 : ∀ (i : Nat) (x : PortD), qs[i]? = some x → (portTxt x).length ≤ (commaTxt (qs.map portTxt)).length := fun i x hx => commaTxt_mem _ _ (List.mem_map_of_mem (List.mem_of_getElem? hx))
 have hql : ∀ (i : Nat) (x : PortD), qs[i]? = some x → ∃ (a : Int) (rg : List Value), x.cs = .string (bs x.nm) :: .int .i64 a :: .bool x.out :: .bool x.reg :: rg ∧ rg.length = 15 ∧ (∀ v ∈ x.cs, v.oneCell' = true) := fun i x hx => by
  have hP := p2 x (List.mem_of_getElem? hx)
  have h1 := hP.one.2
  obtain ⟨a, rg, e, hp⟩ := hP
  exact ⟨a, rg, e, hp.len, h1⟩
 have hqe : ∀ (i : Nat) (x : PortD), qs[i]? = some x → ∀ (j : Nat) (v : Value), x.cs[j]? = some v → w.cell? ⟨d, i * 19 + j, none⟩ = some v := fun i x hx j v hv => (hcq i x.cs (by rw [List.getElem?_map, hx]; rfl)).2 j v hv
 have ihq : ∀ (i : Nat) (x : PortD), qs[i]? = some x → ∀ w', Below w.heap.size w w' → Calls Tryz.prog 30 #[.agg (x.cs.drop 4).toArray] w' (StrPost x.tr w') := fun i x hx => by
  obtain ⟨a, rg, e, hp⟩ := p2 x (List.mem_of_getElem? hx)
  have hz := hm2 i x hx
  simp only [portTxt, lnA] at hz
  rw [e]
  exact printSpan_any hS hp (by omega)
 have hel : ∀ (i : Nat) (x : BindD), ps[i]? = some x → ∃ (a k0 a0 op0 wd0 n0 : Int) (nm0 : ByteArray) (sl0 : Value), x.cs = [.string (bs x.nm), .int .i64 a, .bool x.gv, .int .i64 k0, .int .i64 a0, .int .i64 op0, .int .i64 wd0, .int .u64 n0, .string nm0, sl0] := fun i x hx => by
  obtain ⟨⟨a, k, vl, e, _, hp⟩, hg⟩ := p1 x (List.mem_of_getElem? hx)
  obtain ⟨a0, op0, wd0, n0, nm0, sl0, e0⟩ := (hp hg).seven
  exact ⟨a, k, a0, op0, wd0, n0, nm0, sl0, by rw [e, e0]⟩
 have hce : ∀ (i : Nat) (x : BindD), ps[i]? = some x → ∀ (j : Nat) (v : Value), x.cs[j]? = some v → w.cell? ⟨b, i * 10 + j, none⟩ = some v := fun i x hx j v hv => (hc i x.cs (by rw [List.getElem?_map, hx]; rfl)).2 j v hv
 have ih : ∀ (i : Nat) (x : BindD), ps[i]? = some x → ∀ w', Below w.heap.size w w' → Calls Tryz.prog 29 #[.agg (x.cs.drop 3).toArray] w' (StrPost x.te w') := fun i x hx => by
  obtain ⟨⟨a, k, vl, e, _, hp⟩, hg⟩ := p1 x (List.mem_of_getElem? hx)
  have hz := hm1 i x hx
  simp only [paramTxt, lnA] at hz
  rw [e]
  exact printExpr_any hS (hp hg) (by omega)
 by_cases hp0 : ps = []
 ·exact mod_text0 w nm (by omega) a pa b cap ps (fun h => hpa (by simpa using h)) hp0 (by omega) (by omega) qa d capq qs (fun h => hqa (by simpa using h)) (by omega) (by omega) ia _ ic _ (by omega) ihi hql hqe ihq hel hce ih
 ·exact mod_text1 w nm (by omega) a pa b cap ps (fun h => hpa (by simpa using h)) hp0 (by omega) (by omega) qa d capq qs (fun h => hqa (by simpa using h)) (by omega) (by omega) ia _ ic _ (by omega) ihi hql hqe ihq hel hce ih
theorem mod_any {S : Nat → Prop} {w : World} (hS : ∀ b, S b → b < w.heap.size) {cs : List Value} {t : List UInt8} (h : PM S w cs t) (ht : t.length ≤ 400000000000) :
  ∀ w1, Below w.heap.size w w1 → Calls Tryz.prog 14 #[.agg cs.toArray] w1 (StrPost t w1) := fun _ hw =>
 mod_here (fun b hb => Nat.lt_of_lt_of_le (hS b hb) hw.size) (elM.mono (x := (cs, t)) (fun _ h => h) (fun b o _ hb hu => (hw.cell (p := ⟨b, o, none⟩) (hS b hb)).trans hu) h) ht
theorem text_any {S : Nat → Prop} {w : World} (hS : ∀ b, S b → b < w.heap.size) {v : Value} {ms : List ModD} (hr : RowOf S w 5 v (ms.map (fun x : ModD => x.1))) (hm : ∀ x ∈ ms, PM S w x.1 x.2) (hl : (ms.map (fun x : ModD => x.2)).flatten.length ≤ 400000000000) :
  ∀ w1, Below w.heap.size w w1 → Calls Tryz.prog 8 #[v] w1 (StrPost (ms.map (fun x : ModD => x.2)).flatten w1) := by
 intro w1 hw
 by_cases hn : ms = []
 ·subst hn
  rcases hr with ⟨rfl, _⟩ | ⟨b, cap, _, _, _, hne, _⟩
  ·exact mods_none w1
  ·exact absurd rfl hne
 ·obtain ⟨b, cap, rfl, hb, hc⟩ := hr.some hS (by simpa using hn)
  have hlm : (ms.map (fun x : ModD => x.1)).length = ms.length := List.length_map _
  rw [hlm]
  have hcnt := flat_pos (ms.map (fun x : ModD => x.2)) (fun t ht => by
   obtain ⟨d, hd, rfl⟩ := List.mem_map.1 ht
   exact (hm d hd).pos)
  rw [List.length_map] at hcnt
  exact mods_text w1 b cap (Nat.lt_of_lt_of_le hb hw.size) ms (by omega) (Nat.le_trans hl (by decide)) (fun i x hx => (hm x (List.mem_of_getElem? hx)).one.1)
   (fun i x hx j u hu => (hw.cell (p := ⟨b, i * 5 + j, none⟩) hb).trans ((hc i x.1 (by rw [List.getElem?_map, hx]; rfl)).2 j u hu))
   (fun i x hx w' hw' => mod_any hS (hm x (List.mem_of_getElem? hx)) (by have := qflat_mem (l := ms.map (fun x : ModD => x.2)) (t := x.2) (List.mem_map_of_mem (List.mem_of_getElem? hx)); omega) w' (hw.trans (hw'.mono hw.size)))
end Go.Proofs.YtimmmlnememjiaaGreatDoor
