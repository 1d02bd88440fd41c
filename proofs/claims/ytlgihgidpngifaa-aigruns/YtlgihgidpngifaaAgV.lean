import Derived.Test.YtlgihgidpngifaaAgU
namespace Go.Proofs.Ytlgihgidpngifaa
open Go.RowKit

theorem splice_next (L a : List Bool) (off : Nat) (x : Bool) (h : off + a.length < L.length) : (splice L off a).set (off + a.length) x = splice L off (a ++ [x]) := by
  have e : L.drop (off + a.length) = L[off + a.length] :: L.drop (off + a.length + 1) := List.drop_eq_getElem_cons h
  generalize L[off + a.length] = y at e
  have hl : (L.take off ++ a).length = off + a.length := by simp; omega
  have e2 : L.drop (off + (a ++ [x]).length) = L.drop (off + a.length + 1) := by congr 1; simp; omega
  unfold splice
  rw [e2, e, ← List.append_assoc, ← hl, set_mid]
  simp

/-- the values at first -/
def firstV (nv ni : Nat) (st : List Bool) : List Bool := splice (List.replicate nv false) (1 + ni) st

set_option maxRecDepth 100000 in
set_option maxHeartbeats 8000000 in
theorem start_any (B : Nat) (w : World) (gb : Nat) (S : GrS) (G : GrD) (hat : GrAt B w S G) (hB : B ≤ w.heap.size) (h : BoxAt w gb S G) (ni : Nat) (hni : G.ins = (ni : Int)) (hnl : ni ≤ 60000) (hll : G.lats.length ≤ 6000) (hal : G.ands.length ≤ 60000) :
    Calls Try.prog 16 #[.pointer (some ⟨gb, 0, none⟩)] w fun e w' => ∃ mk g, e = .returned (.pointer (some ⟨mk, 0, none⟩)) ∧ MkAt w' mk gb g S G (firstV (1 + ni + G.lats.length + G.ands.length) ni (initN G)) ∧ w.heap.size ≤ g ∧ w.heap.size ≤ mk ∧ mk ≠ g ∧ Below w.heap.size w w' := by
  obtain ⟨ib, hib, hzb, hsb, hbb⟩ := info_bool
  have HI := hidden hib
  have HZ := hidden hzb
  have HS := hidden hsb
  have HBY := hidden hbb
  clear hib hzb hsb hbb
  have VA : Hid (∀ w', Below w.heap.size w w' → Calls Try.prog 9 #[.pointer (some ⟨gb, 0, none⟩)] w' fun e w'' => e = .returned (.int .i64 ((1 + ni + G.lats.length + G.ands.length : Nat) : Int)) ∧ ∃ n, w'' = w'.drewN n) := fun w' hw' => by
    have := variables_any w' gb S G (h.to h.lt hw') (by omega) (by omega) hat.ll hat.la
    rw [show G.vars = ((1 + ni + G.lats.length + G.ands.length : Nat) : Int) by unfold GrD.vars GrD.first; omega] at this
    exact this
  obtain ⟨nv, hnv⟩ : ∃ nv, nv = 1 + ni + G.lats.length + G.ands.length := ⟨_, rfl⟩
  rw [← hnv] at VA ⊢
  have HBX := hidden h
  have HLA := hidden hat.l
  have blt := h.lt
  have HNI := hidden hni
  have HNV := hidden hnv
  have hnvs : nv ≤ 130000 := by omega
  have hnvl : 1 + ni + G.lats.length ≤ nv := by omega
  clear h hat hni hnv
  obtain ⟨sa1, sc1, sa2, sc2, sa3, sc3⟩ := S
  dsimp only at *
  have hmkb : ib.bytes * nv ≤ 281474976710656 := by rw [HBY.out]; omega
  have hmx : nv ≤ maxLen := by simp only [maxLen]; omega
  go_enter Try.func16, Try.ntmps16
  go_wp2_with fail
  go_at_call 9
  refine (VA.out _ (Below.refl _ _)).mono ?_
  rintro e w0 ⟨rfl, nd, hw0⟩
  have HB0 : Hid (Below w.heap.size w w0) := by rw [hw0]; exact Below.drewN (Below.refl _ _) _
  have hsz0 : w0.heap.size = w.heap.size := by rw [hw0]; rfl
  have HSZ0 := hidden hsz0
  clear hw0 hsz0
  have tok : True := trivial
  go_upto_region 2 with (have _t := tok; at_make; (refine wpList_make_full _ rfl (.tmp 7) (.tmp 7) 31 rfl w0.heap.size 4 ib _ 1 Try.underlying31 HI.out HZ.out HS.out .i64 .i64 (nv : Int) (nv : Int) nv rfl rfl rfl rfl hmkb hmx (Nat.le_refl _) ?_; intro w1 hown1 hgrow1; have HB1 := hidden (HB0.out.trans ((none_below hgrow1).mono HB0.out.size)); have HOM := hidden hown1; have q1' : w1.cell? ⟨gb, 1, none⟩ = some (.slice sa1 G.lats.length sc1) := ((HB1.out.cell (p := ⟨gb, 1, none⟩) blt).trans HBX.out.c1); clear tok hown1 hgrow1))
  generalize hW : World.alloc w1 _ = W
  obtain ⟨g, hg⟩ : ∃ g, g = w0.heap.size := ⟨_, rfl⟩
  obtain ⟨mk, hmk⟩ : ∃ m, m = w1.heap.size := ⟨_, rfl⟩
  have hgl : g < w1.heap.size := by rw [hg]; exact (HOM.out.lt w0.heap.size rfl).2
  have HBW1 : Hid (Below w1.heap.size w1 W) := by rw [← hW]; exact (Below.refl _ _).alloc (Nat.le_refl _) _
  have HBW : Hid (Below w.heap.size w W) := HB1.out.trans (HBW1.out.mono HB1.out.size)
  have hWs : W.heap.size = w1.heap.size + 1 := by rw [← hW]; simp
  have HROW0 : Hid (w1.heap[g]? = some (.cells ((List.replicate nv false).map bV).toArray 4 (0, 0))) := by
    have := HOM.out
    rw [made_false, ← hg] at this
    rcases this.2 with ⟨h', _⟩ | ⟨g', cap', cur, h', _, hh, _, _, hcs, htake⟩
    · simp at h'
    · simp only [Value.slice.injEq, Option.some.injEq, Addr.mk.injEq, and_true, true_and] at h'
      obtain ⟨rfl, rfl⟩ := h'
      show _ = _
      rw [hh]
      rw [List.take_of_length_le (by rw [Array.length_toList, hcs]; exact Nat.le_refl _)] at htake
      rw [← htake]
  have HMK : Hid (MkAt W mk gb g ⟨sa1, sc1, sa2, sc2, sa3, sc3⟩ G (firstV nv ni ((G.lats.take 0).map LatD.init))) := by
    have e : firstV nv ni ((G.lats.take 0).map LatD.init) = List.replicate nv false := by unfold firstV splice; simp; omega
    rw [e]
    refine ⟨?_, ?_, by omega, by omega, HBX.out.to HBX.out.lt HBW.out, (HBW1.out.block g hgl).trans HROW0.out⟩
    · rw [← hW, hmk, cell_new rfl]; rfl
    · rw [← hW, hmk, cell_new rfl, List.length_replicate, hg]; rfl
  rw [← hg, ← hmk]
  have hmg : mk ≠ g := by omega
  have hgw : w.heap.size ≤ g := by have := HSZ0.out; omega
  have hmw : w.heap.size ≤ mk := by have := HB1.out.size; omega
  have hbg : gb ≠ g := by omega
  clear hW hg hmk HOM HBW1 HROW0 HB1 HB0 hgl hWs HSZ0 q1'
  have q1W := HMK.out.box.c1
  have bltW := HMK.out.box.lt
  go_wp2_with fail
  go_loopw [16] (fun i' w' => ∃ (k : Nat), k ≤ G.lats.length ∧ i' = .int .i64 k ∧ Hid (w'.heap[g]? = some (.cells ((firstV nv ni ((G.lats.take k).map LatD.init)).map bV).toArray 4 (0, 0))) ∧ Hid (W.grownBy w' (some g))) (fun i' _ => G.lats.length - (intOf i').toNat)
  case atStart => exact ⟨0, Nat.zero_le _, rfl, HMK.out.row, grown_refl _ _⟩
  case round =>
    obtain ⟨k, hk, rfl, HRK, HG⟩ := hrel
    have hfl : ∀ st : List Bool, 1 + ni + st.length ≤ nv → (firstV nv ni st).length = nv := fun st h => by unfold firstV; rw [length_splice _ _ _ (by simpa using h)]; simp
    have hl0 : (firstV nv ni ((G.lats.take 0).map LatD.init)).length = nv := hfl _ (by simp; omega)
    have hlk : (firstV nv ni ((G.lats.take k).map LatD.init)).length = nv := hfl _ (by simp; omega)
    have HMR : Hid (MkAt wr mk gb g ⟨sa1, sc1, sa2, sc2, sa3, sc3⟩ G (firstV nv ni ((G.lats.take k).map LatD.init))) := HMK.out.turn HG.out hmg hbg (by rw [hlk, hl0]) HRK.out
    by_cases hlt : k < G.lats.length
    · obtain ⟨z, hz⟩ := getElem_lt hlt
      obtain ⟨rb, ro, ea, hrb, hrc⟩ := HLA.out.el hz
      have m1R := HMR.out.m1
      rw [hlk] at m1R
      have q0R := HMR.out.box.c0
      rw [HNI.out] at q0R
      have q1R := HMR.out.box.c1
      dsimp only at q1R
      have hrbg : rb ≠ g := by have := Nat.lt_of_lt_of_le hrb hB; omega
      have c1 : wr.cell? ⟨rb, ro + k * 2 + 1, none⟩ = some (.bool z.init) := HG.out.cell ((HBW.out.cell (p := ⟨rb, ro + k * 2 + 1, none⟩) (Nat.lt_of_lt_of_le hrb hB)).trans (hrc 1 _ rfl)) (by intro e; cases e; exact hrbg rfl)
      have hix : 1 + ni + k < nv := by omega
      obtain ⟨old, hold⟩ : ∃ old, (firstV nv ni ((G.lats.take k).map LatD.init))[1 + ni + k]? = some old := getElem_lt (by rw [hlk]; exact hix)
      have cOld := HMR.out.cell hold
      have hfz : wr.frozen? ⟨g, 1 + ni + k, none⟩ = false := frozen_of_row wr g _ _ _ HMR.out.row
      have HNX : Hid ((firstV nv ni ((G.lats.take k).map LatD.init)).set (1 + ni + k) z.init = firstV nv ni ((G.lats.take (k + 1)).map LatD.init)) := by
        show _ = _
        have hkl : ((G.lats.take k).map LatD.init).length = k := by simp; omega
        have := splice_next (List.replicate nv false) ((G.lats.take k).map LatD.init) (1 + ni) z.init (by rw [hkl]; simpa using hix)
        rw [hkl] at this
        unfold firstV
        rw [this, take_next _ k z hz, List.map_append]; rfl
      have HEND : Hid (((wr.setCell ⟨g, 1 + ni + k, none⟩ (.bool z.init)).drew).heap[g]? = some (.cells ((firstV nv ni ((G.lats.take (k + 1)).map LatD.init)).map bV).toArray 4 (0, 0)) ∧ W.grownBy ((wr.setCell ⟨g, 1 + ni + k, none⟩ (.bool z.init)).drew) (some g)) := by
        refine ⟨?_, grown_trans HG.out (grown_trans (grown_setCell _ _ _ _) (grown_drew _ _))⟩
        show (wr.setCell ⟨g, 1 + ni + k, none⟩ (.bool z.init)).heap[g]? = _
        rw [heap_setCell_same _ g _ _ _ _ HRK.out, ← HNX.out]
        simp [bV]
      generalize z.init = zi at *
      subst ea
      have hltI : (k : Int) < (G.lats.length : Int) := by omega
      have e3 : IntKind.i64.wrap ((k : Int) + 1) = (k : Int) + 1 := wrapI _ (by omega) (by omega)
      have e5 : IntKind.i64.wrap (1 + (ni : Int)) = 1 + (ni : Int) := wrapI _ (by omega) (by omega)
      have e6 : IntKind.i64.wrap (1 + (ni : Int) + (k : Int)) = 1 + (ni : Int) + (k : Int) := wrapI _ (by omega) (by omega)
      have e7 : (1 + (ni : Int) + (k : Int)).toNat = 1 + ni + k := by omega
      have e8 : (1 + (ni : Int) + (k : Int)) < (nv : Int) := by omega
      have e9 : (0 : Int) ≤ 1 + (ni : Int) + (k : Int) := by omega
      clear hrc hz hold HRK HG HNX hfl hl0 hlk
      go_wp2_with fail
      go_region_held3 (fun w' => ∀ b' o, b' ≠ g → w'.cell? ⟨b', o, none⟩ = wr.cell? ⟨b', o, none⟩)
        (first | assumption | (intro b' o h1; rfl) | (intro b' o h1; exact World.cell?_setCell_far _ _ _ _ (fun e => h1 (by have e' : g = b' := e; exact e'.symm))))
        (fail)
      go_wp2_with fail
      go_roundw
      case measure => simp [intOf]; omega
      case rel => exact ⟨k + 1, by omega, by simp, HEND.out.1, HEND.out.2⟩
    · have hge : ¬ ((k : Int) < (G.lats.length : Int)) := by omega
      have HM6 : Hid (MkAt wr mk gb g ⟨sa1, sc1, sa2, sc2, sa3, sc3⟩ G (firstV nv ni (initN G))) := by
        have := HMR.out
        rw [List.take_of_length_le (by omega)] at this
        exact this
      have HBE : Hid (Below w.heap.size w wr) := HBW.out.trans ((below_grown HG.out HBW.out.size (fun k hk => by cases hk; exact hgw)))
      clear HMR HRK
      go_wp2
      go_ret
      exact ⟨mk, rfl, g, HM6.out, hgw, hmw, hmg, HBE.out⟩

end Go.Proofs.Ytlgihgidpngifaa
