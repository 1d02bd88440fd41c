import Derived.Test.YtefjicdhccfieaaJuQ
namespace Go.Proofs.Ytefjicdhccfieaa
open Go.RowKit

theorem row1 {B : Nat} {w : World} {a : Option Addr} {α : Type} {f : α → List Value} {xs : List α} (h : RowAt B w a 1 (xs.map f)) {i : Nat} {x : α} {v : Value} (hx : xs[i]? = some x) (hf : f x = [v]) :
    ∃ b o, a = some ⟨b, o, none⟩ ∧ b < B ∧ w.cell? ⟨b, o + i, none⟩ = some v := by
  obtain ⟨b, o, ha, hlt, hc⟩ := h.el hx
  refine ⟨b, o, ha, hlt, ?_⟩
  have := hc 0 v (by rw [hf]; rfl)
  simpa using this
set_option maxRecDepth 100000 in
set_option maxHeartbeats 8000000 in
theorem sameClauses_any (B : Nat) (w : World) (aa : Option Addr) (ac : Nat) (cls : List CL) (ba : Option Addr) (bc : Nat) (cls' : List CL) (ha : RowAt B w aa 1 (cls.map CL.cells)) (hae : ∀ t, t ∈ cls → RowAt B w t.a 1 (t.l.map intC)) (hb : RowAt B w ba 1 (cls'.map CL.cells)) (hbe : ∀ t, t ∈ cls' → RowAt B w t.a 1 (t.l.map intC)) (he : cls.map CL.l = cls'.map CL.l) (hB : B ≤ w.heap.size) (hn : cls.length ≤ 16777216) (hm : ∀ t, t ∈ cls → t.l.length ≤ 16777216) :
    Calls Try.prog 30 #[.slice aa cls.length ac, .slice ba cls'.length bc] w fun e w' => e = .returned (.bool true) ∧ Below w.heap.size w w' := by
  have HA := hidden ha
  have HAE := hidden hae
  have HBR := hidden hb
  have HBE := hidden hbe
  have HM := hidden hm
  have HE : Hid (∀ (k : Nat) (t : CL), cls[k]? = some t → ∃ t' : CL, cls'[k]? = some t' ∧ t'.l = t.l) := fun k t hk => by
    have h1 : (cls'.map CL.l)[k]? = some t.l := by rw [← he, List.getElem?_map, hk]; rfl
    rw [List.getElem?_map] at h1
    cases h2 : cls'[k]? with
    | none => rw [h2] at h1; cases h1
    | some t' => rw [h2] at h1; exact ⟨t', rfl, by simpa using h1⟩
  have hln : cls'.length = cls.length := by have := congrArg List.length he; simpa using this.symm
  rw [hln]
  obtain ⟨n, HN⟩ : ∃ n, Hid (n = cls.length) := ⟨_, rfl⟩
  rw [← HN.out] at hn
  rw [← HN.out]
  clear ha hae hb hbe hm he hln
  go_enter Try.func30, Try.ntmps30
  go_wp2_with fail
  go_loopw [5] (fun i' w' => ∃ (k : Nat), k ≤ n ∧ i' = .int .i64 k ∧ Hid (Below w.heap.size w w')) (fun i' _ => n - (intOf i').toNat)
  case atStart => exact ⟨0, Nat.zero_le _, rfl, Below.refl _ _⟩
  case round =>
    obtain ⟨k, hk, rfl, HQ⟩ := hrel
    by_cases hlt : k < n
    · have hltI : (k : Int) < (n : Int) := by omega
      obtain ⟨t, ht⟩ := getElem_lt (show k < cls.length by have := HN.out; omega)
      obtain ⟨t', ht', hl'⟩ := HE.out k t ht
      obtain ⟨b, o, ea, hlb, hc⟩ := row1 HA.out ht rfl
      obtain ⟨b', o', ea', hlb', hc'⟩ := row1 HBR.out ht' rfl
      rw [hl'] at hc'
      have HRT := hidden (HAE.out t (List.mem_of_getElem? ht))
      have HRT' : Hid (RowAt B w t'.a 1 (t.l.map intC)) := by have := HBE.out t' (List.mem_of_getElem? ht'); rwa [hl'] at this
      have hml := HM.out t (List.mem_of_getElem? ht)
      obtain ⟨m, HMM⟩ : ∃ m, Hid (m = t.l.length) := ⟨_, rfl⟩
      rw [← HMM.out] at hml hc hc'
      have hbw : b < w.heap.size := Nat.lt_of_lt_of_le hlb hB
      have hbw' : b' < w.heap.size := Nat.lt_of_lt_of_le hlb' hB
      have HC : Hid (∀ w', Below w.heap.size w w' → w'.cell? ⟨b, o + k, none⟩ = some (.slice t.a m t.c)) := fun w' hb => (hb.cell (p := ⟨b, o + k, none⟩) hbw).trans hc
      have HC' : Hid (∀ w', Below w.heap.size w w' → w'.cell? ⟨b', o' + k, none⟩ = some (.slice t'.a m t'.c)) := fun w' hb => (hb.cell (p := ⟨b', o' + k, none⟩) hbw').trans hc'
      have e3 : IntKind.i64.wrap ((k : Int) + 1) = (k : Int) + 1 := wrapI _ (by omega) (by omega)
      have c0 := HC.out _ HQ.out
      have c1 := HC'.out _ HQ.out
      rw [ea, ea']
      clear ht ht' hl' hc hc' ea ea' hlb hlb'
      go_wp2_with fail
      go_quiet (fail)
      have HQ1 : Hid (∀ q, Below w.heap.size w (wr.drewN q)) := fun q => Below.drewN HQ.out q
      have HC0 : Hid (∀ q, (wr.drewN q).cell? ⟨b, o + k, none⟩ = some (.slice t.a m t.c)) := fun q => HC.out _ (HQ1.out q)
      clear c0 c1
      go_wp2_with fail
      go_loopw [6] (fun j' w' => ∃ (j : Nat), j ≤ m ∧ j' = .int .i64 j ∧ Hid (Below w.heap.size w w')) (fun j' _ => m - (intOf j').toNat)
      case atStart => exact ⟨0, Nat.zero_le _, rfl, HQ1.out _⟩
      case round =>
        clear HQ1 HQ
        obtain ⟨j, hj, rfl, HQ⟩ := hrel
        have c0 := HC.out _ HQ.out
        have c1 := HC'.out _ HQ.out
        by_cases hjl : j < m
        · have hjI : (j : Int) < (m : Int) := by omega
          obtain ⟨x, hx⟩ := getElem_lt (show j < t.l.length by have := HMM.out; omega)
          obtain ⟨ib, io, ia, ilb, ic⟩ := row1 HRT.out hx rfl
          obtain ⟨ib', io', ia', ilb', ic'⟩ := row1 HRT'.out hx rfl
          have i0 : wr.cell? ⟨ib, io + j, none⟩ = some (.int .i64 x) := (HQ.out.cell (p := ⟨ib, io + j, none⟩) (Nat.lt_of_lt_of_le ilb hB)).trans ic
          have i1 : wr.cell? ⟨ib', io' + j, none⟩ = some (.int .i64 x) := (HQ.out.cell (p := ⟨ib', io' + j, none⟩) (Nat.lt_of_lt_of_le ilb' hB)).trans ic'
          have e4 : IntKind.i64.wrap ((j : Int) + 1) = (j : Int) + 1 := wrapI _ (by omega) (by omega)
          rw [ia] at c0
          rw [ia'] at c1
          clear hx ia ia' ilb ilb' ic ic'
          go_wp2_with fail
          go_quiet (fail)
          go_wp2
          go_roundw
          case measure => simp [intOf]; omega
          case rel => exact ⟨j + 1, by omega, by simp, Below.drewN HQ.out _⟩
        · have hjI : ¬ ((j : Int) < (m : Int)) := by omega
          go_wp2
          go_roundw
          case measure => simp [intOf]; omega
          case rel => exact ⟨k + 1, by omega, by simp, HQ.out⟩
    · have hge : ¬ ((k : Int) < (n : Int)) := by omega
      go_wp2
      go_ret
      exact ⟨rfl, HQ.out⟩

end Go.Proofs.Ytefjicdhccfieaa
