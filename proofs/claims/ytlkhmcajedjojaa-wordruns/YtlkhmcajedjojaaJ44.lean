import Derived.Test.YtlkhmcajedjojaaJ34
namespace Go.Proofs.Ytlkhmcajedjojaa
open Go.RowKit

theorem runW_len (N : NetD) (tr : List (List Nat)) (st : St) : ∀ x, x ∈ runW N tr st → x.length = N.outs.length := by
  induction tr generalizing st with
  | nil => intro x hx; cases hx
  | cons r t ih =>
    intro x hx
    rcases List.mem_cons.1 hx with rfl | hx
    · unfold outsN; simp
    · exact ih _ x hx
/-- rows of words behind an address -/
def RowsW (w : World) (a : Option Addr) (rows : List RW) : Prop := ∀ (i : Nat) (r : RW), rows[i]? = some r → ∃ b o, a = some ⟨b, o, none⟩ ∧ b < w.heap.size ∧ w.cell? ⟨b, o + i, none⟩ = some r.v ∧ US w r.v r.l
theorem rows_of {w : World} {C n : Nat} {v : Value} {rows : List RW} (h : w.ownsRow C 34 1 v n (rows.map RW.v)) (hb : ∀ r, r ∈ rows → US w r.v r.l) : ∃ a c, v = .slice a n c ∧ RowsW w a rows ∧ rows.length = n := by
  have hl : rows.length = n := by have := h.1; simp at this; omega
  rcases h.2 with ⟨h0, h1⟩ | ⟨g, cap, cur, hv, h1⟩
  · refine ⟨none, 0, by rw [h0, h1], fun i r hr => ?_, hl⟩
    have := (List.getElem?_eq_some_iff.1 hr).1
    omega
  · refine ⟨some ⟨g, 0, none⟩, cap, hv, fun i r hr => ⟨g, 0, rfl, (h.lt g (by rw [hv]; rfl)).2, ?_, hb r (List.mem_of_getElem? hr)⟩, hl⟩
    have := h.cells (g := g) (by rw [hv]; rfl) i r.v (by rw [List.getElem?_map, hr]; rfl)
    rw [add0] at this
    simpa using this
theorem RowsW.to {w w' : World} {a : Option Addr} {rows : List RW} (h : RowsW w a rows) (hb : Below w.heap.size w w') : RowsW w' a rows := fun i r hr => by
  obtain ⟨b, o, ha, hlt, hc, hbs⟩ := h i r hr
  exact ⟨b, o, ha, Nat.lt_of_lt_of_le hlt hb.size, (hb.cell (p := ⟨b, o + i, none⟩) hlt).trans hc, hbs.to hb⟩

set_option maxRecDepth 100000 in
set_option maxHeartbeats 8000000 in
theorem sameWords_any (w : World) (a1 a2 : Option Addr) (ca cb : Nat) (ra rb : List RW) (n : Nat) (hn1 : ra.length = n) (hn2 : rb.length = n) (hl : n < 17592186044416)
    (H1 : Hid (RowsW w a1 ra)) (H2 : Hid (RowsW w a2 rb)) (HE : Hid (ra.map RW.l = rb.map RW.l)) (hbig : ∀ r, r ∈ ra → r.l.length < 17592186044416) :
    Calls Try.prog 23 #[.slice a1 n ca, .slice a2 n cb] w fun e w' => e = .returned (.bool true) ∧ ∃ q, w' = w.drewN q := by
  go_enter Try.func23, Try.ntmps23
  go_wp2_with fail
  go_loopw [5] (fun i' w' => ∃ (k : Nat), k ≤ n ∧ i' = .int .i64 k ∧ Hid (∃ q, w' = w.drewN q)) (fun i' _ => n - (intOf i').toNat)
  case atStart => exact ⟨0, Nat.zero_le _, rfl, ⟨0, rfl⟩⟩
  case round =>
    obtain ⟨k, hk, rfl, HQ⟩ := hrel
    obtain ⟨q, rfl⟩ := HQ.out
    by_cases hlt : k < n
    · obtain ⟨m1, hm1⟩ : ∃ m, ra[k]? = some m := ⟨ra[k]'(by omega), List.getElem?_eq_getElem (by omega)⟩
      obtain ⟨m2, hm2⟩ : ∃ m, rb[k]? = some m := ⟨rb[k]'(by omega), List.getElem?_eq_getElem (by omega)⟩
      obtain ⟨d1, p1, rfl, -, c1, b1⟩ := H1.out k m1 hm1
      obtain ⟨d2, p2, rfl, -, c2, b2⟩ := H2.out k m2 hm2
      have el : m1.l = m2.l := by
        have := congrArg (fun l => l[k]?) HE.out
        simpa [hm1, hm2] using this
      have l1 := hbig m1 (List.mem_of_getElem? hm1)
      rw [← el] at b2
      obtain ⟨x1, z1, e1, r1⟩ := b1.row
      obtain ⟨x2, z2, e2, r2⟩ := b2.row
      rw [e1] at c1
      rw [e2] at c2
      obtain ⟨ls, hls⟩ : ∃ ls, ls = m1.l := ⟨_, rfl⟩
      rw [← hls] at c1 c2 r1 r2 l1
      have R1 := hidden r1
      have R2 := hidden r2
      have hltI : (k : Int) < (n : Int) := by omega
      have e3 : IntKind.i64.wrap ((k : Int) + 1) = (k : Int) + 1 := wrapI _ (by omega) (by omega)
      clear hm1 hm2 el r1 r2 HQ b1 b2 e1 e2 hls
      go_wp2_with fail
      go_quiet (fail)
      go_wp2_with fail
      go_loopw [6] (fun i' w' => ∃ (j : Nat), j ≤ ls.length ∧ i' = .int .i64 j ∧ Hid (∃ q, w' = w.drewN q)) (fun i' _ => ls.length - (intOf i').toNat)
      case atStart => exact ⟨0, Nat.zero_le _, rfl, ⟨_, World.drewN_drewN _ _ _⟩⟩
      case round =>
        obtain ⟨j, hj, rfl, HQ⟩ := hrel
        obtain ⟨q2, rfl⟩ := HQ.out
        by_cases hlj : j < ls.length
        · obtain ⟨x, hx⟩ : ∃ x, ls[j]? = some x := ⟨ls[j], List.getElem?_eq_getElem hlj⟩
          obtain ⟨d1, p1, rfl, -, cx1⟩ := rowU R1.out hx
          obtain ⟨d2, p2, rfl, -, cx2⟩ := rowU R2.out hx
          have hljI : (j : Int) < (ls.length : Int) := by omega
          have e4 : IntKind.i64.wrap ((j : Int) + 1) = (j : Int) + 1 := wrapI _ (by omega) (by omega)
          clear hx HQ
          go_wp2_with fail
          go_quiet (fail)
          go_wp2
          go_roundw
          case measure => simp [intOf]; omega
          case rel => exact ⟨j + 1, by omega, by simp, ⟨_, rfl⟩⟩
        · have hge : ¬ ((j : Int) < (ls.length : Int)) := by omega
          clear HQ
          go_wp2
          go_roundw
          case measure => simp [intOf]; omega
          case rel => exact ⟨k + 1, by omega, by simp, ⟨_, rfl⟩⟩
    · have hge : ¬ ((k : Int) < (n : Int)) := by omega
      clear HQ
      go_wp2
      go_ret
      exact ⟨rfl, _, rfl⟩

end Go.Proofs.Ytlkhmcajedjojaa
