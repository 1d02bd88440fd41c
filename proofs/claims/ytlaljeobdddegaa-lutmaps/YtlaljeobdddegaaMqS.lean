import Derived.Test.YtlaljeobdddegaaMqR
namespace Go.Proofs.Ytlaljeobdddegaa
open Go.RowKit Mp

/-- a finder in memory that grows -/
structure FnB (w : World) (fb : Nat) (Cs : List (List Ct)) (ds : List Nat) : Prop where
  ex : ∃ av ev dv, Blk w fb 87 #[av, ev, dv] ∧ LsC (fb + 1) w av ev Cs ∧ w.ownsRow (fb + 1) 3 1 dv ds.length (ds.map nV) ∧ (dv.ownBlock = none ∨ dv.ownBlock ≠ ev.ownBlock)
  num : ds.length ≤ 1000000
theorem LsC.kept {C : Nat} {w w' : World} {av ev : Value} {Cs : List (List Ct)} {row : Option Nat} (h : LsC C w av ev Cs) (hg : w.grownBy w' row) (h1 : av.ownBlock = none ∨ av.ownBlock ≠ row) (h2 : ev.ownBlock = none ∨ ev.ownBlock ≠ row) : LsC C w' av ev Cs := ⟨own_kept h.oa hg h1, own_kept h.oe hg h2, h.num, h.few⟩
theorem LsC.to {C : Nat} {w w' : World} {av ev : Value} {Cs : List (List Ct)} (h : LsC C w av ev Cs) (hb : Bl w w') : LsC C w' av ev Cs := ⟨own_below h.oa hb, own_below h.oe hb, h.num, h.few⟩
theorem FnB.to {w w' : World} {fb : Nat} {Cs : List (List Ct)} {ds : List Nat} (h : FnB w fb Cs ds) (hb : Bl w w') : FnB w' fb Cs ds := by
  obtain ⟨av, ev, dv, h1, h2, h3, h4⟩ := h.ex
  exact ⟨⟨av, ev, dv, h1.below hb, h2.to hb, own_below h3 hb, h4⟩, h.num⟩
theorem new_ne {C fb : Nat} {v : Value} (h : NewB C v) (hf : fb < C) : v.ownBlock = none ∨ v.ownBlock ≠ some fb := by
  cases e : v.ownBlock with
  | none => exact Or.inl rfl
  | some k => exact Or.inr (fun h' => by injection h' with h'; have := h k e; omega)
/-- its rows lie below T -/
def FnBelow (w : World) (fb T : Nat) : Prop := ∀ av ev dv, Blk w fb 87 #[av, ev, dv] → (∀ k, av.ownBlock = some k → k < T) ∧ (∀ k, ev.ownBlock = some k → k < T) ∧ (∀ k, dv.ownBlock = some k → k < T)
set_option maxRecDepth 100000 in
set_option maxHeartbeats 8000000 in
theorem note_any (w : World) (fb : Nat) (Cs : List (List Ct)) (ds : List Nat) (h : FnB w fb Cs ds) (hlen : Cs.length = ds.length) (d : Nat) (la : Option Addr) (c : Nat) (cs : List Ct) (hcs : CtsR w la cs) (hne : cs ≠ []) (T : Nat) (hT : FnBelow w fb T) (hTl : ∀ b o, la = some ⟨b, o, none⟩ → T ≤ b ∧ b ≠ fb) (hn1 : Cs.length + 1 ≤ 1000000) (hn2 : Cs.flatten.length + cs.length ≤ 900000000000) :
    Calls Try.prog 55 #[.pointer (some ⟨fb, 0, none⟩), .int .i64 (d : Nat), .slice la cs.length c] w fun e w' => (∃ v, e = .returned v) ∧ Hid (FnB w' fb (Cs ++ [cs]) (ds ++ [d])) ∧ Hid (Below fb w w') := by
  obtain ⟨av, ev, dv, hbk, hls, hod, hsep⟩ := h.ex
  obtain ⟨t1, t2, t3⟩ := hT av ev dv hbk
  have hfl := hbk.lt
  have z2 : w.cell? ⟨fb, 2, none⟩ = some dv := hbk.cell (i := 2) rfl
  have HBK := hidden hbk
  have HLS := hidden hls
  have HOD := hidden hod
  have HW1 : Hid (w.heap.size = w.heap.size) := rfl
  obtain ⟨w1, Ew1⟩ := exh (w.alloc (.cells #[.int .i64 (d : Int)] 3))
  have HG1 : Hid (Bl w w1) := by rw [Ew1.out]; exact (Below.refl _ _).alloc (Nat.le_refl _) _
  have HCL : Hid (w1.cell? ⟨w.heap.size, 0, none⟩ = some (.int .i64 (d : Int))) := by
    show _ = _
    rw [Ew1.out, cell_new rfl]; rfl
  have HFD : Hid (some fb ≠ dv.ownBlock) := fun e => by have := own_newB HOD.out fb e.symm; omega
  have HNX : Hid (∀ g2 c2 w2, w2.ownsRow (fb + 1) 3 1 (.slice (some ⟨g2, 0, none⟩) (ds.length + 1) c2) (ds.length + 1) (ds.map nV ++ [.int .i64 (d : Int)]) → w1.grownBy w2 dv.ownBlock → (dv.ownBlock = some g2 ∨ g2 = w1.heap.size) → Blk w2 fb 87 #[av, ev, dv] ∧ Calls Try.prog 68 #[.pointer (some ⟨fb, 0, none⟩), .slice la cs.length c] (w2.setCell ⟨fb, 2, none⟩ (.slice (some ⟨g2, 0, none⟩) (ds.length + 1) c2)) fun e w' => (∃ v, e = .returned v) ∧ Hid (FnB w' fb (Cs ++ [cs]) (ds ++ [d])) ∧ Hid (Below fb w w')) := by
    intro g2 c2 w2 hown hgrow hplace
    have hb2 := blk_kept (HBK.out.below HG1.out) hgrow HFD.out
    have hg3 := (But.set fb 2 w2 (.slice (some ⟨g2, 0, none⟩) (ds.length + 1) c2)).grown
    have hl2 := (HLS.out.to HG1.out).kept hgrow (own_ne HOD.out HLS.out.oa (by decide)) (by
      rcases hsep with h | h
      · rw [h]
        cases e : ev.ownBlock with
        | none => exact Or.inl rfl
        | some k => exact Or.inr (by simp)
      · exact Or.inr (fun e => h e.symm))
    have hl3 := hl2.kept hg3 (new_ne (own_newB hl2.oa) (by omega)) (new_ne (own_newB hl2.oe) (by omega))
    have s1 := HG1.out.size
    have s2 := hgrow.size
    have hb3 := hb2.set 2 (.slice (some ⟨g2, 0, none⟩) (ds.length + 1) c2)
    have hc3 : CtsR (w2.setCell ⟨fb, 2, none⟩ (.slice (some ⟨g2, 0, none⟩) (ds.length + 1) c2)) la cs := fun k x hx => by
      obtain ⟨b, o, e, hat⟩ := hcs k x hx
      obtain ⟨hTb, hbf⟩ := hTl b o e
      refine ⟨b, o, e, hat.heap (Nat.le_trans s1 (Nat.le_trans s2 hg3.size)) ?_⟩
      rw [hg3.block b (by have := hat.lt; omega) (fun e => hbf (by injection e)), hgrow.block b (by have := hat.lt; omega) (fun e => by have := t3 b e.symm; omega), HG1.out.block b hat.lt]
    refine ⟨hb2, ?_⟩
    refine (addC_any (fb + 1) _ fb (.slice (some ⟨g2, 0, none⟩) (ds.length + 1) c2) av ev Cs 87 hb3 (by omega) (by have := hb3.lt; omega) hl3 la c cs hc3 hne hn1 hn2).mono ?_
    rintro e w' ⟨av', ev', hv, HB', HL', HLo, HFr, HEv⟩
    refine ⟨hv, ⟨⟨av', ev', _, HB'.out, HL'.out, ?_, ?_⟩, by rw [List.length_append, List.length_singleton, ← hlen]; exact hn1⟩, ?_⟩
    · rw [List.map_append, List.length_append]
      refine ⟨by simp, Or.inr ?_⟩
      have ho3 := own_kept hown hg3 (new_ne (own_newB hown) (by omega))
      rcases ho3.2 with ⟨h', _⟩ | ⟨g', cap', cur, h', q1, q2, q3⟩
      · cases h'
      · simp only [Value.slice.injEq, Option.some.injEq, Addr.mk.injEq, and_true, true_and] at h'
        obtain ⟨rfl, rfl⟩ := h'
        refine ⟨g2, c2, cur, rfl, q1, (HFr.out g2 (Array.getElem?_eq_some_iff.1 q2).1 (by omega) (fun e => ?_) (fun e => ?_)).trans q2, q3⟩
        · rcases own_ne hl3.oa ho3 (by decide) with h | h
          · cases h
          · exact h e
        · rcases hplace with h | h
          · rcases hsep with h' | h'
            · rw [h] at h'; cases h'
            · exact h' (by rw [h]; exact e)
          · have := own_lt HLS.out.oe g2 e.symm
            omega
    · refine Or.inr (fun e => ?_)
      rcases HEv.out g2 e.symm with h | h
      · rcases hplace with h2 | h2
        · rcases hsep with h' | h'
          · rw [h2] at h'; cases h'
          · exact h' (by rw [h2, h])
        · have := own_lt HLS.out.oe g2 h
          omega
      · have h3 := own_lt hown g2 rfl
        have := hg3.size
        have h4 : (w2.setCell ⟨fb, 2, none⟩ (.slice (some ⟨g2, 0, none⟩) (ds.length + 1) c2)).heap.size = w2.heap.size := by simp [World.setCell]
        omega
    · have b1 : Below fb w w1 := HG1.out.mono (Nat.le_of_lt hfl)
      have b2 : Below fb w1 w2 := grow_low hgrow (by omega) (fun k e => by have := own_newB HOD.out k e; omega)
      have b3 := (But.set fb 2 w2 (.slice (some ⟨g2, 0, none⟩) (ds.length + 1) c2)).below (Nat.le_refl _) (Nat.le_of_lt hb2.lt)
      exact b1.trans (b2.trans (b3.trans HLo.out))
  have HO1 : Hid (w1.ownsRow (fb + 1) 3 1 dv ds.length (ds.map nV)) := own_below HOD.out HG1.out
  have hsz : fb + 1 ≤ w1.heap.size := by have := HG1.out.size; omega
  have hdn : ds.length ≤ 1000000000000 := by omega
  obtain ⟨n, En⟩ := exh cs.length
  rw [← En.out] at HNX
  rw [← En.out]
  clear h hbk hls hod hcs hne hT hTl hn1 hn2 t1 t2 t3 hsep HW1 hlen
  go_enter Try.func55, Try.ntmps55
  have tok : True := trivial
  go_upto_region 1 with (have _t := tok; at_builtin; (rw [← Ew1.out]; refine app_int _ rfl (.tmp 10) (.tmp 12) rfl (fb + 1) dv ds.length _ rfl HO1.out ⟨w.heap.size, 0, none⟩ (d : Int) rfl HCL.out hdn hsz ?_; intro g2 c2 w2 hown hgrow hplace; obtain ⟨hb2, hcall⟩ := HNX.out g2 c2 w2 hown hgrow hplace; have y2 : w2.cell? ⟨fb, 2, none⟩ = some dv := hb2.cell (i := 2) rfl; have f2 := hb2.frozen 2; have HCA := hidden hcall; clear tok hown hgrow hplace hb2 hcall))
  go_wp2_with fail
  go_at_call 68
  refine HCA.out.mono ?_
  rintro e w' ⟨⟨v, rfl⟩, H1, H2⟩
  go_wp2_with fail
  go_end0
  exact ⟨⟨_, rfl⟩, H1.out, H2.out⟩
end Go.Proofs.Ytlaljeobdddegaa
