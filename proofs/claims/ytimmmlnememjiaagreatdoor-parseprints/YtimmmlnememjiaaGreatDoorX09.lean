import Derived.Test.YtimmmlnememjiaaGreatDoorX
import Derived.Test.YtimmmlnememjiaaGreatDoorX08
import Derived.Deep.Cut
set_option maxRecDepth 100000
set_option maxHeartbeats 16000000
namespace Go.Proofs.YtimmmlnememjiaaGreatDoor
open Go.RowKit
theorem set7_self {w : World} {b : Nat} {v0 v1 v2 v3 v4 v5 v6 : Value} {T : TypeId} (h : w.heap[b]? = some (.cells #[v0, v1, v2, v3, v4, v5, v6] T)) (u0 u1 u2 u3 u4 u5 u6 : Value) : (set7 w b u0 u1 u2 u3 u4 u5 u6).heap[b]? = some (.cells #[u0, u1, u2, u3, u4, u5, u6] T) := by
 have hl : b < w.heap.size := by
  rcases Nat.lt_or_ge b w.heap.size with h1 | h1
  ·exact h1
  ·rw [Array.getElem?_eq_none h1] at h; cases h
 have f := (set7_two (w := w) (b := b) (o1 := .cells #[] 0) (o2 := .cells #[] 0) hl h u0 u1 u2 u3 u4 u5 u6).1
 have e : (((set7 w b u0 u1 u2 u3 u4 u5 u6).alloc (.cells #[] 0)).alloc (.cells #[] 0)).drew.heap[b]? = (set7 w b u0 u1 u2 u3 u4 u5 u6).heap[b]? := by
  show (((set7 w b u0 u1 u2 u3 u4 u5 u6).alloc (.cells #[] 0)).alloc (.cells #[] 0)).heap[b]? = _
  rw [Below.heap_alloc _ _ _ (by rw [World.size_alloc, set7_size]; omega), Below.heap_alloc _ _ _ (by rw [set7_size]; exact hl)]
 rw [e] at f; exact f
theorem set7_ne {w : World} {b k : Nat} (hk : k ≠ b) (u0 u1 u2 u3 u4 u5 u6 : Value) : (set7 w b u0 u1 u2 u3 u4 u5 u6).heap[k]? = w.heap[k]? := by
 unfold set7; exact heap_set7 hk _ _ _ _ _ _ _
theorem box7 {w9 wa : World} {b : Nat} {v0 v1 v2 v3 v4 v5 v6 u0 u1 u2 u3 u4 u5 u6 : Value} {T : TypeId} (hS : set7 w9 b u0 u1 u2 u3 u4 u5 u6 = wa) (h : w9.heap[b]? = some (.cells #[v0, v1, v2, v3, v4, v5, v6] T)) :
  wa.heap[b]? = some (.cells #[u0, u1, u2, u3, u4, u5, u6] T) ∧ wa.heap.size = w9.heap.size ∧ (∀ k, k ≠ b → wa.heap[k]? = w9.heap[k]?) ∧ (∀ br a, Kq br a w9 → a.heap.size ≤ b → Hid (Kq br a wa)) := by
 subst hS
 exact ⟨set7_self h _ _ _ _ _ _ _, set7_size _ _ _ _ _ _ _ _ _, fun k hk => set7_ne hk _ _ _ _ _ _ _, fun br a hk hb => hk.set7' hb _ _ _ _ _ _ _⟩
theorem grown_kq1 {br : Nat} {w w4 w5 : World} {o1 : Obj} {row : Option Nat} (K : Kq br w w4) (hg : (w4.alloc o1).grownBy w5 row) (hr : ∀ k, row = some k → w.heap.size ≤ k) : Kq br w w5 := by
 have h := hg.size
 simp at h
 have K' := K.size
 refine ⟨hg.os.trans K.os, hg.tape.trans K.tape, hg.output.trans K.output, by omega, fun k hk hn => ?_⟩
 rw [grown_box1 hg (by omega) (fun e => by have := hr k e.symm; omega)]
 exact K.block k hk hn
theorem cell_al1 {wa w9 : World} {b o : Nat} {u : Value} (o1 : Obj) (hu : w9.cell? ⟨b, o, none⟩ = some u) (hs : w9.heap.size ≤ wa.heap.size) (hh : wa.heap[b]? = w9.heap[b]?) : (wa.alloc o1).cell? ⟨b, o, none⟩ = some u := by
 have h1 := cell_lt hu
 rw [World.cell?_of_block (a := ⟨b, o, none⟩) ((Below.heap_alloc wa o1 b (by omega)).trans hh)]; exact hu
theorem els_al1 {S : Nat → Prop} {L : Nat} {w : World} {v : Value} {es : List Ele} (h : ElsS S L w v es) (o : Obj) : ElsS S L (w.alloc o) v es :=
 h.to fun _ _ hk => Below.heap_alloc _ _ _ hk
theorem target_any (M : Nat) (IH : ∀ M', M' < M → CTarget M') (CP : CPlace M) : CTarget M := by
 intro br s c m w h hM
 have HX := hI h
 have hlt := h.lt
 have HM := hI hM
 have HI := hI IH
 have HP := hI CP
 clear hM IH CP
 obtain ⟨kq, wdq, nq, Tq, aa, qq, fa, hr, h'⟩ := h
 obtain ⟨f0, f1, f2, f3, f4, f5, f6, f7, f8, fz⟩ := hr.all
 clear hr h'
 go_enter Tryz.func56, Tryz.ntmps56
 go_wp2_with fail
 generalize hW : w.alloc (.cells _ 55) = W
 obtain ⟨hz, r0, o0, kW⟩ := one_box hW
 have KW := kW br
 have SW : Hid (Sx br s W c m) := HX.out.to (o0 br hlt)
 have R0 := hI r0
 clear hW kW o0 r0 f0 f1 f2 f3 f4 f5 f6 f7 f8 fz
 refine (accept_any SW.out _).mono ?_
 rintro e w3 ⟨bo, rfl, hk3, hh⟩
 have HH := hI hh
 have K3 : Hid (Kq br W w3) := hk3
 clear hh hk3
 cases bo
 case false =>
  rcases HH.out with ⟨h1, _⟩ | ⟨_, h1⟩
  ·cases h1
  ·subst h1
   clear HH K3
   go_wp2_with fail
   refine (HP.out br s c m w3 SW.out HM.out).mono ?_
   rintro e w2 ⟨k2, a2, op2, wd2, n2, nm2, sa2, sl2, sc2, rfl, hk2, c', m', hx2, ha2, hp2⟩
   have r2 := (hk2.block w.heap.size (by omega) (by omega)).trans R0.out
   have K2 : Hid (Kq br w w2) := KW.out.trans hk2
   have X2 := hI hx2
   have A2 := hI ha2
   have P2 := hI hp2
   clear hk2 hx2 ha2 hp2
   obtain ⟨q0, q1, q2, q3, q4, q5, q6, qf, ql⟩ := bx r2
   clear r2 R0
   go_wp2_with fail
   exact bodyPost_ret (v := .agg #[.int .i64 k2, .int .i64 a2, .int .i64 op2, .int .i64 wd2, .int .u64 n2, .string nm2, .slice sa2 sl2 sc2]) (by simp [results, Tryz.results56, go_sem, *]) rfl (ex_close hlt K2.out X2.out A2.out fun hc => by
    obtain ⟨t, hp, hl⟩ := P2.out hc
    exact ⟨t, pe_le hp (by omega), hl⟩)
 case true =>
  rcases HH.out with ⟨_, hc0, m3, hm3, hx3⟩ | ⟨h1, _⟩
  ·subst hc0
   have X3 := hI hx3
   have X0 := hI hx3
   have hM1 : Hid (m + 1 ≤ M) := by have := HM.out; simp only [meas, if_pos] at this; exact this
   have HL : Hid (meas 0 m3 < M) := by have := hM1.out; simp only [meas, if_pos]; show _ < _; omega
   have R3 := hI ((K3.out.block w.heap.size (by omega) (by omega)).trans R0.out)
   have z3 : w.heap.size + 1 ≤ w3.heap.size := by have := K3.out.size; omega
   have K3' : Hid (Kq br w w3) := KW.out.trans K3.out
   clear hx3 HH K3 R0 SW KW HM
   go_wp2_with fail
   generalize hW4 : w3.alloc (.cells _ 55) = w4
   obtain ⟨z4, b4, o4, k34⟩ := one_box hW4
   have K4 : Hid (Kq br w w4) := K3'.out.trans (k34 br).out
   have X4 : Hid (Sx br s w4 0 m3) := X3.out.to (o4 br (by omega))
   have R4 := hI ((o4 w.heap.size (by omega)).trans R3.out)
   have B4 := hI b4
   clear hW4 k34 o4 R3 b4 K3' X3
   refine (HI.out _ HL.out br s 0 m3 w4 X4.out (Nat.le_refl _)).mono ?_
   rintro e w5 ⟨k5, a5, op5, wd5, n5, nm5, sa5, sl5, sc5, rfl, hk5, c5, m5, hx5, ha5, hp5⟩
   have R5 := hI ((hk5.block w.heap.size (by omega) (by omega)).trans R4.out)
   have b5 := (hk5.block w3.heap.size (by omega) (by omega)).trans B4.out
   have B5 := hI b5
   have z5 : w3.heap.size + 1 ≤ w5.heap.size := by have := hk5.size; omega
   have K5 : Hid (Kq br w w5) := K4.out.trans hk5
   have X5 := hI hx5
   have A5 := hI ha5
   have P5 := hI hp5
   clear hk5 hx5 ha5 hp5 R4 B4 K4 X4 HL
   obtain ⟨p0, p1, p2, p3, p4, p5, p6, pf, pl⟩ := bx b5
   clear b5
   obtain ⟨i55, hi, hzz, hsz, hby⟩ := info55'
   have HI5 := hI hi
   have HZ5 := hI hzz
   have HS5 := hI hsz
   have HB5 := hI hby
   clear hi hzz hsz hby
   go_wp2_with (at_builtin; refine wpList_append_lies _ rfl (.tmp 23) (.tmp 25) 53 rfl (w3.heap.size + 1) 55 i55 _ 7 80 Tryz.underlying53 HI5.out HZ5.out HS5.out HB5.out rfl (by decide) (.slice none 0 0) 0 [] rfl (World.ownsRow_nil _ _ _ _) ⟨w5.heap.size + 1, 0, none⟩ 1 1 [.int .i64 k5, .int .i64 a5, .int .i64 op5, .int .i64 wd5, .int .u64 n5, .string nm5, .slice sa5 sl5 sc5] rfl rfl (seven_new _ _ _ _ _ _ _ _ _ _) seven_one (by decide) (by decide) (by decide) (by simp; omega) _ rfl ?_; intro g6 cap6 w6 hownX hgrowX hatX hltX; have eX := (grown_box hgrowX (k := w3.heap.size) pl (by simp [Value.ownBlock])).trans B5.out; have EX := hI eX; have O6 := hI hownX; have G6 := hI hgrowX; have T6 := hI hatX; clear hownX hgrowX hatX; obtain ⟨p0, p1, p2, p3, p4, p5, p6, pf, plX⟩ := bx eX; clear eX)
   generalize hS6 : w6.setCell ⟨w3.heap.size, 6, none⟩ _ = w7
   have tb6 : w6.heap[w5.heap.size]? = some (.cells #[.int .i64 k5, .int .i64 a5, .int .i64 op5, .int .i64 wd5, .int .u64 n5, .string nm5, .slice sa5 sl5 sc5] 55) := (G6.out.block w5.heap.size (by simp; omega) (by simp [Value.ownBlock])).trans (two_boxes rfl).2.1
   have hg6 : g6 = w5.heap.size + 2 := by
    rcases T6.out with h | h
    ·simp [Value.ownBlock] at h
    ·rw [h]; simp
   obtain ⟨b7, z7, o7, k7, x7⟩ := set_box hS6 EX.out
   have K6 : Hid (Kq br w w6) := grown_kq K5.out G6.out (by simp [Value.ownBlock])
   have X6 : Hid (Sx br s w6 c5 m5) := X5.out.to (grown_box G6.out (by omega) (by simp [Value.ownBlock]))
   have K7 := k7 br w K6.out (by omega)
   have X7 := x7 br s c5 m5 X6.out (by omega)
   have R7 : Hid (w7.heap[w.heap.size]? = some (.cells #[.int .i64 0, .int .i64 0, .int .i64 0, .int .i64 0, .int .u64 0, .string ⟨#[]⟩, .slice none 0 0] 55)) := (o7 w.heap.size (by omega)).trans ((grown_box G6.out (k := w.heap.size) (by omega) (by simp [Value.ownBlock])).trans R5.out)
   have T7 : Hid (w7.heap[w5.heap.size]? = some (.cells #[.int .i64 k5, .int .i64 a5, .int .i64 op5, .int .i64 wd5, .int .u64 n5, .string nm5, .slice sa5 sl5 sc5] 55)) := (o7 w5.heap.size (by omega)).trans tb6
   have B7 : Hid (w7.heap[w3.heap.size]? = some (.cells #[.int .i64 8, .int .i64 aa, .int .i64 0, .int .i64 0, .int .u64 0, .string ⟨#[]⟩, .slice (some ⟨g6, 0, none⟩) 1 cap6] 55)) := b7
   have zz7 : w5.heap.size + 1 ≤ w7.heap.size := by have := G6.out.size; simp at this; omega
   have LST : Hid (LstS (fun b => w3.heap.size + 1 ≤ b ∧ b ≠ w5.heap.size) (w3.heap.size + 1) m3 w7 c5 m5 (.slice (some ⟨g6, 0, none⟩) 1 cap6)) := by
    intro hc
    obtain ⟨t, hp, hl⟩ := P5.out hc
    have hm := (A5.out.2 hc).2
    have hE := ElsS.push (S := (fun b => w3.heap.size + 1 ≤ b ∧ b ≠ w5.heap.size)) (L := w3.heap.size + 1) (w := (w5.alloc _).alloc _) (w' := w6) (ElsS.nil _ _ _) (k5, [.int .i64 k5, .int .i64 a5, .int .i64 op5, .int .i64 wd5, .int .u64 n5, .string nm5, .slice sa5 sl5 sc5], t) (by
     refine hp.strong.mono ?_ ?_
     ·intro b hb
      have h1 : w4.heap.size ≤ b := hb.1
      have h2 := hb.2
      exact ⟨⟨by omega, by omega⟩, by simp [Value.ownBlock]⟩
     ·intro b o u hb hu
      rw [World.cell?_of_block (a := ⟨b, o, none⟩) ((Below.heap_alloc _ _ _ (by have := cell_lt hu; simp; omega)).trans (Below.heap_alloc _ _ _ (cell_lt hu)))]; exact hu) (g := g6) (cap := cap6) ⟨by omega, by omega⟩ O6.out G6.out T6.out
    refine ⟨[(k5, [.int .i64 k5, .int .i64 a5, .int .i64 op5, .int .i64 wd5, .int .u64 n5, .string nm5, .slice sa5 sl5 sc5], t)], hE.to fun k hk _ => o7 k (by have := hk.1; omega), by simp, ?_, hl⟩
    show 1 + m5 ≤ m3
    omega
   clear hS6 tb6 hg6 o7 k7 x7 b7 z7 G6 O6 T6 EX P5 X6 K6 X5 K5 R5 B5 p0 p1 p2 p3 p4 p5 p6 pf pl plX hltX HI5 HZ5 HS5 HB5
   go_loopg [28] m5 (fun gk _ wr => ∃ (cr : Int) (mr : Nat) (sa : Option Addr) (sl sc : Nat) (kT aT opT wdT nT : Int) (nmT : ByteArray) (saT : Option Addr) (slT scT : Nat), gk = mr ∧ Hid (Sx br s wr cr mr) ∧ Hid (Kq br w wr) ∧ Hid (wr.heap[w3.heap.size]? = some (.cells #[.int .i64 8, .int .i64 aa, .int .i64 0, .int .i64 0, .int .u64 0, .string ⟨#[]⟩, .slice sa sl sc] 55)) ∧ Hid (wr.heap[w.heap.size]? = some (.cells #[.int .i64 0, .int .i64 0, .int .i64 0, .int .i64 0, .int .u64 0, .string ⟨#[]⟩, .slice none 0 0] 55)) ∧ Hid (wr.heap[w5.heap.size]? = some (.cells #[.int .i64 kT, .int .i64 aT, .int .i64 opT, .int .i64 wdT, .int .u64 nT, .string nmT, .slice saT slT scT] 55)) ∧ w5.heap.size + 1 ≤ wr.heap.size ∧ Hid (LstS (fun b => w3.heap.size + 1 ≤ b ∧ b ≠ w5.heap.size) (w3.heap.size + 1) m3 wr cr mr (.slice sa sl sc)) ∧ Hid (Adv 0 m3 cr mr))
   case atStart => exact ⟨c5, m5, _, _, _, k5, a5, op5, wd5, n5, nm5, sa5, sl5, sc5, rfl, X7, K7, B7, R7, T7, zz7, LST, A5⟩
   case round =>
    obtain ⟨cr, mr, sa, sl, sc, kT, aT, opT, wdT, nT, nmT, saT, slT, scT, hgk, XR, KR, BR, RR, TR, zR, LR, AR⟩ := hrel
    subst hgk
    clear LST X7 K7 B7 R7 T7 zz7
    go_wp2_with fail
    refine (accept_any XR.out _).mono ?_
    rintro e w8 ⟨bo, rfl, hk8, hh⟩
    have HH := hI hh
    have K8 : Hid (Kq br wr w8) := hk8
    clear hh hk8
    cases bo
    case false =>
     rcases HH.out with ⟨h1, _⟩ | ⟨_, h1⟩
     ·cases h1
     ·subst h1
      clear HH K8
      go_wp2_with fail
      refine (must_any XR.out _).mono ?_
      rintro e w9 ⟨rfl, hk9, c9, m9, hx9, ha9⟩
      have e9 := (hk9.block w3.heap.size (by omega) (by omega)).trans BR.out
      have r9 := (hk9.block w.heap.size (by omega) (by omega)).trans RR.out
      have K9 : Hid (Kq br w w9) := KR.out.trans hk9
      have K9' := hI hk9
      have X9 := hI hx9
      have A9 := hI ha9
      obtain ⟨p0, p1, p2, p3, p4, p5, p6, pf, pl⟩ := bx e9
      obtain ⟨q0, q1, q2, q3, q4, q5, q6, qf, ql⟩ := bx r9
      clear e9 r9 hk9 hx9 ha9
      go_wp2_with fail
      refine bodyPost_ret (v := .agg #[.int .i64 8, .int .i64 aa, .int .i64 0, .int .i64 0, .int .u64 0, .string ⟨#[]⟩, .slice sa sl sc]) (by simp [results, Tryz.results56, go_sem, *]) rfl (ex_close hlt K9.out X9.out (Adv.trans ⟨Nat.le_of_lt hm3, fun _ => ⟨rfl, hm3⟩⟩ (AR.out.trans A9.out)) fun hc => ?_)
      obtain ⟨hc4, hm9⟩ := A9.out.2 hc
      obtain ⟨es, hE, hn1, hn2, hn3⟩ := LR.out hc4
      have hE' := (hE.to (w' := w9) fun k hk hl => K9'.out.block k hl (by have := hk.1; omega)).node 8 aa 0 0 0 [] (Or.inr (Or.inr (Or.inr (Or.inr (Or.inr (Or.inl ⟨rfl, hn1⟩))))))
      refine ⟨_, hE'.mono (S' := fun b => w.heap.size + 1 ≤ b) (fun b hb => by have := hb.1; show w.heap.size + 1 ≤ b; omega) (fun _ _ _ _ hu => hu), ?_⟩
      show ([123] ++ commaTxt (es.map (fun x : Ele => x.2.2)) ++ [125]).length ≤ _
      simp only [lnA, lnC, lnN]
      omega
    case true =>
     rcases HH.out with ⟨_, hc0, m8, hm8, hx8⟩ | ⟨h1, _⟩
     ·subst hc0
      obtain ⟨es, hE, hn1, hn2, hn3⟩ := LR.out rfl
      have hmm : gk < m3 := (AR.out.2 rfl).2
      have HL : Hid (meas 0 m8 < M) := by have := hM1.out; simp only [meas, if_pos]; show _ < _; omega
      have X8 := hI hx8
      have B8 := hI ((K8.out.block w3.heap.size (by omega) (by omega)).trans BR.out)
      have R8 := hI ((K8.out.block w.heap.size (by omega) (by omega)).trans RR.out)
      have T8 := hI ((K8.out.block w5.heap.size (by omega) (by omega)).trans TR.out)
      have HE8 := hI (hE.to (w' := w8) fun k hk hl => K8.out.block k hl (by have := hk.1; omega))
      have HN3 := hI hn3
      have z8 : w5.heap.size + 1 ≤ w8.heap.size := by have := K8.out.size; omega
      have K8' : Hid (Kq br w w8) := KR.out.trans K8.out
      obtain ⟨g0, rfl, rfl, hgL, hgS, hg8⟩ := HE8.out.form hn1
      have HGS := hI hgS
      clear hE hn3 hx8 HH K8 BR RR TR KR XR LR hgS
      go_wp2_with fail
      refine (HI.out _ HL.out br s 0 m8 w8 X8.out (Nat.le_refl _)).mono ?_
      rintro e w9 ⟨k9, a9, op9, wd9, n9, nm9, sa9, sl9, sc9, rfl, hk9, c9, m9, hx9, ha9, hp9⟩
      have B9 := hI ((hk9.block w3.heap.size (by omega) (by omega)).trans B8.out)
      have R9 := hI ((hk9.block w.heap.size (by omega) (by omega)).trans R8.out)
      have t9 := (hk9.block w5.heap.size (by omega) (by omega)).trans T8.out
      have T9 := hI t9
      have HE9 := hI (HE8.out.to (w' := w9) fun k hk hl => hk9.block k hl (by have := hk.1; omega))
      have z9 : w8.heap.size ≤ w9.heap.size := hk9.size
      have K9 : Hid (Kq br w w9) := K8'.out.trans hk9
      have X9 := hI hx9
      have A9 := hI ha9
      have P9 := hI hp9
      clear hk9 hx9 ha9 hp9 B8 R8 T8 K8' X8 HL HE8
      obtain ⟨q0, q1, q2, q3, q4, q5, q6, qf, ql⟩ := bx t9
      clear t9
      go_upto_region 10 with fail
      generalize hSa : (((((((w9.setCell ⟨w5.heap.size, 0, none⟩ (.int .i64 k9)).setCell ⟨w5.heap.size, 1, none⟩ (.int .i64 a9)).setCell ⟨w5.heap.size, 2, none⟩ (.int .i64 op9)).setCell ⟨w5.heap.size, 3, none⟩ (.int .i64 wd9)).setCell ⟨w5.heap.size, 4, none⟩ (.int .u64 n9)).setCell ⟨w5.heap.size, 5, none⟩ (.string nm9)).setCell ⟨w5.heap.size, 6, none⟩ (.slice sa9 sl9 sc9)) = wa
      have hSa' : set7 w9 w5.heap.size (.int .i64 k9) (.int .i64 a9) (.int .i64 op9) (.int .i64 wd9) (.int .u64 n9) (.string nm9) (.slice sa9 sl9 sc9) = wa := hSa
      obtain ⟨ta, za, oa, ka⟩ := box7 hSa' T9.out
      have Ka := ka br w K9.out (by omega)
      have Xa : Hid (Sx br s wa c9 m9) := X9.out.to (oa br (by omega))
      have ba := (oa w3.heap.size (by omega)).trans B9.out
      have Ba := hI ba
      have Ra := hI ((oa w.heap.size (by omega)).trans R9.out)
      have Ta := hI ta
      have HEa := hI (HE9.out.to (w' := wa) fun k hk _ => oa k hk.2)
      have Oa := hI oa
      have hg0 : ¬ w3.heap.size = g0 := by omega
      have hm60 : m3 ≤ 60001 := X0.out.le
      have za1 : w9.heap.size ≤ wa.heap.size := by omega
      clear hSa hSa' za oa ka HE9 K9 X9 B9 R9 T9 q0 q1 q2 q3 q4 q5 q6 qf ql
      obtain ⟨p0, p1, p2, p3, p4, p5, p6, pf, pl⟩ := bx ba
      obtain ⟨q0, q1, q2, q3, q4, q5, q6, qf, ql⟩ := bx ta
      clear ba ta
      obtain ⟨i55, hi, hzz, hsz, hby⟩ := info55'
      have HI5 := hI hi
      have HZ5 := hI hzz
      have HS5 := hI hsz
      have HB5 := hI hby
      clear hi hzz hsz hby
      go_wp2_with (at_builtin; refine wpList_append_lies _ rfl (.tmp 33) (.tmp 35) 53 rfl (w3.heap.size + 1) 55 i55 _ 7 80 Tryz.underlying53 HI5.out HZ5.out HS5.out HB5.out rfl (by decide) (.slice (some ⟨g0, 0, none⟩) es.length sc) es.length _ rfl (els_al1 HEa.out _).1 ⟨wa.heap.size, 0, none⟩ 1 1 [.int .i64 k9, .int .i64 a9, .int .i64 op9, .int .i64 wd9, .int .u64 n9, .string nm9, .slice sa9 sl9 sc9] rfl rfl (seven_new1 _ _ _ _ _ _ _ _ _) seven_one (by decide) (by simp only [maxLen]; omega) (by omega) (by simp; omega) _ rfl ?_; intro gB capB wB hownX hgrowX hatX hltX; have eX := (grown_box1 hgrowX (k := w3.heap.size) pl (by simp [Value.ownBlock]; omega)).trans Ba.out; have EX := hI eX; have OB := hI hownX; have GB := hI hgrowX; have TB := hI hatX; clear hownX hgrowX hatX; obtain ⟨p0, p1, p2, p3, p4, p5, p6, pf, plX⟩ := bx eX; clear eX)
      generalize hS6 : wB.setCell ⟨w3.heap.size, 6, none⟩ _ = wC
      obtain ⟨bC, zC, oC, kC, xC⟩ := set_box hS6 EX.out
      have hgB : w3.heap.size + 1 ≤ gB ∧ gB ≠ w5.heap.size ∧ gB < wB.heap.size := by
       have hs := GB.out.size
       simp at hs
       rcases TB.out with h | h
       ·simp [Value.ownBlock] at h
        have := HGS.out
        exact ⟨by omega, by omega, by omega⟩
       ·simp at h
        exact ⟨by omega, by omega, by omega⟩
      have KB : Hid (Kq br w wB) := grown_kq1 Ka.out GB.out (by intro k hk; simp [Value.ownBlock] at hk; omega)
      have XB : Hid (Sx br s wB c9 m9) := Xa.out.to (grown_box1 GB.out (by omega) (by simp [Value.ownBlock]; omega))
      have KC := kC br w KB.out (by omega)
      have XC := xC br s c9 m9 XB.out (by omega)
      have RC : Hid (wC.heap[w.heap.size]? = some (.cells #[.int .i64 0, .int .i64 0, .int .i64 0, .int .i64 0, .int .u64 0, .string ⟨#[]⟩, .slice none 0 0] 55)) := (oC w.heap.size (by omega)).trans ((grown_box1 GB.out (k := w.heap.size) (by omega) (by simp [Value.ownBlock]; omega)).trans Ra.out)
      have TC : Hid (wC.heap[w5.heap.size]? = some (.cells #[.int .i64 k9, .int .i64 a9, .int .i64 op9, .int .i64 wd9, .int .u64 n9, .string nm9, .slice sa9 sl9 sc9] 55)) := (oC w5.heap.size (by omega)).trans ((grown_box1 GB.out (k := w5.heap.size) (by omega) (by have := HGS.out; simp [Value.ownBlock]; omega)).trans Ta.out)
      have zzC : w5.heap.size + 1 ≤ wC.heap.size := by have := GB.out.size; simp at this; omega
      have LST : Hid (LstS (fun b => w3.heap.size + 1 ≤ b ∧ b ≠ w5.heap.size) (w3.heap.size + 1) m3 wC c9 m9 (.slice (some ⟨gB, 0, none⟩) (es.length + 1) capB)) := by
       intro hc
       obtain ⟨t, hp, hl⟩ := P9.out hc
       have hm := (A9.out.2 hc).2
       have hn3' := HN3.out
       have hE := ElsS.push (S := (fun b => w3.heap.size + 1 ≤ b ∧ b ≠ w5.heap.size)) (L := w3.heap.size + 1) (w := wa.alloc _) (w' := wB) (els_al1 HEa.out _) (k9, [.int .i64 k9, .int .i64 a9, .int .i64 op9, .int .i64 wd9, .int .u64 n9, .string nm9, .slice sa9 sl9 sc9], t) (by
        refine hp.strong.mono ?_ ?_
        ·intro b hb
         have h1 : w8.heap.size ≤ b := hb.1
         have h2 := hb.2
         refine ⟨⟨by omega, by omega⟩, ?_⟩
         simp [Value.ownBlock]
         omega
        ·intro b o u hb hu
         have h1 : w8.heap.size ≤ b := hb.1
         have hcl := cell_lt hu
         exact cell_al1 _ hu za1 (Oa.out b (by omega))) (g := gB) (cap := capB) ⟨hgB.1, hgB.2.1⟩ OB.out GB.out TB.out
       refine ⟨es ++ [(k9, [.int .i64 k9, .int .i64 a9, .int .i64 op9, .int .i64 wd9, .int .u64 n9, .string nm9, .slice sa9 sl9 sc9], t)], hE.to fun k hk _ => oC k (by have := hk.1; omega), by simp, ?_, ?_⟩
       ·rw [lnA]; show es.length + 1 + m9 ≤ m3; omega
       ·rw [List.map_append, List.map_cons, List.map_nil, commaTxt_snoc _ _ (by intro e; have := congrArg List.length e; simp at this; subst this; simp at hn1)]
        simp only [lnA, lnC, lnN]
        omega
      go_roundg m9
      case measure => have := A9.out.1; omega
      case rel => exact ⟨c9, m9, _, _, _, k9, a9, op9, wd9, n9, nm9, sa9, sl9, sc9, rfl, XC, KC, bC, RC, TC, zzC, LST, Adv.trans AR.out (Adv.trans ⟨Nat.le_of_lt hm8, fun _ => ⟨rfl, hm8⟩⟩ A9.out)⟩
     ·cases h1
  ·cases h1
theorem bad_adv {c c' : Int} {m m' : Nat} (h : m' ≤ m) (h' : c' = 0 → False) : Adv c m c' m' := ⟨h, fun e => (h' e).elim⟩
theorem els_drew {L : Nat} {w : World} {v : Value} {es : List Ele} (h : Els L w v es) : Els L w.drew v es := h.to fun _ _ _ => rfl
def LpPost (br : Nat) (s : ByteArray) (c : Int) (m : Nat) (w : World) (e : Ending) (w' : World) : Prop :=
 ∃ (nm : ByteArray) (sa : Option Addr) (sl sc : Nat), e = .returned (.tuple #[.string nm, .slice sa sl sc]) ∧ nm.size ≤ 40 ∧ Kq br w w' ∧ ∃ (c' : Int) (m' : Nat), Sx br s w' c' m' ∧ Adv c m c' m' ∧
  (c' = 0 → ∃ es : List Ele, Els w.heap.size w' (.slice sa sl sc) es ∧ es.length = 3 ∧ 2 * nm.size + 17 + (es.map (fun x : Ele => x.2.2)).flatten.length ≤ 64 * (m - m'))
theorem loop_any (br : Nat) (s : ByteArray) (c : Int) (m : Nat) (w : World) (h : Sx br s w c m) :
  Calls Tryz.prog 58 #[.pointer (some ⟨br, 0, none⟩)] w (LpPost br s c m w) := by
 have X0 := hI h
 have hlt := h.lt
 clear h
 go_enter Tryz.func58, Tryz.ntmps58
 go_wp2_with fail
 refine (must_any X0.out _).mono ?_
 rintro e w1 ⟨rfl, hk, c1, m1, hx, ha⟩
 have z1 : w.heap.size ≤ w1.heap.size := hk.size
 have K1 : Hid (Kq br w w1) := hk
 have X1 := hI hx
 have A1 := hI ha
 clear hk hx ha
 go_wp2_with fail
 refine (name_any X1.out).mono ?_
 rintro e w2 ⟨nm2, rfl, hnm2, hk, c2, m2, hx, ha⟩
 have z2 : w1.heap.size ≤ w2.heap.size := hk.size
 have K2 : Hid (Kq br w1 w2) := hk
 have X2 := hI hx
 have A2 := hI ha
 clear hk hx ha
 go_wp2_with fail
 refine (must_any X2.out _).mono ?_
 rintro e w3 ⟨rfl, hk, c3, m3, hx, ha⟩
 have z3 : w2.heap.size ≤ w3.heap.size := hk.size
 have K3 : Hid (Kq br w2 w3) := hk
 have X3 := hI hx
 have A3 := hI ha
 clear hk hx ha
 go_wp2_with fail
 refine (expr_read X3.out).mono ?_
 rintro e w4 ⟨k4, a4, op4, wd4, n4, nm4, sa4, sl4, sc4, rfl, hk, c4, m4, hx, ha, hp⟩
 have z4 : w3.heap.size ≤ w4.heap.size := hk.size
 have K4 : Hid (Kq br w3 w4) := hk
 have XX := hI hx
 have A4 := hI ha
 have P4 := hI hp
 clear hk hx ha hp
 go_wp2_with fail
 generalize hWW : w4.alloc (.cells _ 55) = w5
 obtain ⟨zz, B4, oo, kk⟩ := one_box hWW
 have z5 : w4.heap.size < w5.heap.size := by omega
 have K5 : Hid (Kq br w4 w5) := kk br
 have X5 : Hid (Sx br s w5 c4 m4) := XX.out.to (oo br (by omega))
 have B4 := hI B4
 clear hWW zz oo kk XX
 refine (must_any X5.out _).mono ?_
 rintro e w6 ⟨rfl, hk, c6, m6, hx, ha⟩
 have z6 : w5.heap.size ≤ w6.heap.size := hk.size
 have K6 : Hid (Kq br w5 w6) := hk
 have X6 := hI hx
 have A6 := hI ha
 clear hk hx ha
 go_wp2_with fail
 refine (expr_read X6.out).mono ?_
 rintro e w7 ⟨k7, a7, op7, wd7, n7, nm7, sa7, sl7, sc7, rfl, hk, c7, m7, hx, ha, hp⟩
 have z7 : w6.heap.size ≤ w7.heap.size := hk.size
 have K7 : Hid (Kq br w6 w7) := hk
 have XX := hI hx
 have A7 := hI ha
 have P7 := hI hp
 clear hk hx ha hp
 go_wp2_with fail
 generalize hWW : w7.alloc (.cells _ 55) = w8
 obtain ⟨zz, B7, oo, kk⟩ := one_box hWW
 have z8 : w7.heap.size < w8.heap.size := by omega
 have K8 : Hid (Kq br w7 w8) := kk br
 have X8 : Hid (Sx br s w8 c7 m7) := XX.out.to (oo br (by omega))
 have B7 := hI B7
 clear hWW zz oo kk XX
 refine (must_any X8.out _).mono ?_
 rintro e w9 ⟨rfl, hk, c9, m9, hx, ha⟩
 have z9 : w8.heap.size ≤ w9.heap.size := hk.size
 have K9 : Hid (Kq br w8 w9) := hk
 have X9 := hI hx
 have A9 := hI ha
 clear hk hx ha
 have X9s := X9.out
 obtain ⟨kt, wdt, nt, Tt, at9, qt, fat, hra, h'⟩ := X9s
 obtain ⟨f0, f1, f2, f3, f4, f5, f6, f7, f8, fz⟩ := hra.all
 clear h' hra
 by_cases hc : c9 = 0
 ·subst hc
  by_cases hk1 : kt = 1
  ·subst hk1
   cases hT : (Tt.toList == nm2.toList)
   case true =>
    go_wp2_with fail
    clear f0 f1 f2 f3 f4 f5 f6 f7 f8 fz hT
    refine (name_any X9.out).mono ?_
    rintro e w11 ⟨nm11, rfl, hnm11, hk, c11, m11, hx, ha⟩
    have z11 : w9.heap.size ≤ w11.heap.size := hk.size
    have K11 : Hid (Kq br w9 w11) := hk
    have X11 := hI hx
    have A11 := hI ha
    clear hk hx ha
    go_wp2_with fail
    refine (must_any X11.out _).mono ?_
    rintro e w12 ⟨rfl, hk, c12, m12, hx, ha⟩
    have z12 : w11.heap.size ≤ w12.heap.size := hk.size
    have K12 : Hid (Kq br w11 w12) := hk
    have X12 := hI hx
    have A12 := hI ha
    clear hk hx ha
    go_wp2_with fail
    refine (expr_read X12.out).mono ?_
    rintro e w13 ⟨k13, a13, op13, wd13, n13, nm13, sa13, sl13, sc13, rfl, hk, c13, m13, hx, ha, hp⟩
    have z13 : w12.heap.size ≤ w13.heap.size := hk.size
    have K13 : Hid (Kq br w12 w13) := hk
    have XX := hI hx
    have A13 := hI ha
    have P13 := hI hp
    clear hk hx ha hp
    go_wp2_with fail
    generalize hWW : w13.alloc (.cells _ 55) = w14
    obtain ⟨zz, B13, oo, kk⟩ := one_box hWW
    have z14 : w13.heap.size < w14.heap.size := by omega
    have K14 : Hid (Kq br w13 w14) := kk br
    have X14 : Hid (Sx br s w14 c13 m13) := XX.out.to (oo br (by omega))
    have B13 := hI B13
    clear hWW zz oo kk XX
    refine (must_any X14.out _).mono ?_
    rintro e w15 ⟨rfl, hk, c15, m15, hx, ha⟩
    have z15 : w14.heap.size ≤ w15.heap.size := hk.size
    have K15 : Hid (Kq br w14 w15) := hk
    have X15 := hI hx
    have A15 := hI ha
    clear hk hx ha
    have K9_15 : Hid (Kq br w8 w15) := K9.out.trans (K11.out.trans (K12.out.trans (K13.out.trans (K14.out.trans K15.out))))
    have K5_15 : Hid (Kq br w5 w15) := K6.out.trans (K7.out.trans (K8.out.trans K9_15.out))
    have K0_5 : Hid (Kq br w w5) := K1.out.trans (K2.out.trans (K3.out.trans (K4.out.trans K5.out)))
    have y15 : w8.heap.size ≤ w15.heap.size := K9_15.out.size
    have b4 := (K5_15.out.block w4.heap.size (by omega) (by omega)).trans B4.out
    have b7 := (K9_15.out.block w7.heap.size (by omega) (by omega)).trans B7.out
    have b13 := (K15.out.block w13.heap.size (by omega) (by omega)).trans B13.out
    obtain ⟨p0, p1, p2, p3, p4, p5, p6, pf, pl⟩ := bx b4
    obtain ⟨q0, q1, q2, q3, q4, q5, q6, qf, ql⟩ := bx b7
    obtain ⟨y0, y1, y2, y3, y4, y5, y6, yf, yl⟩ := bx b13
    clear b4 b7 b13
    go_wp2_with fail
    go_region
    all_goals
     go_wp2_with fail
     go_ret2
     refine ⟨nm2, some ⟨w15.heap.size, 0, none⟩, 3, 3, rfl, hnm2, ((K0_5.out.trans K5_15.out).alloc _).drew, c15, m15, ((X15.out.alloc _).drew), (A1.out.trans (A2.out.trans (A3.out.trans (A4.out.trans (A6.out.trans (A7.out.trans (A9.out.trans (A11.out.trans (A12.out.trans (A13.out.trans A15.out)))))))))), fun hc => ?_⟩
     obtain ⟨hc13, h15⟩ := A15.out.2 hc
     obtain ⟨hc12, h13⟩ := A13.out.2 hc13
     obtain ⟨hc11, h12⟩ := A12.out.2 hc12
     obtain ⟨hc9, h11⟩ := A11.out.2 hc11
     obtain ⟨hc7, h9⟩ := A9.out.2 hc9
     obtain ⟨hc6, h7⟩ := A7.out.2 hc7
     obtain ⟨hc4, h6⟩ := A6.out.2 hc6
     obtain ⟨hc3, h4⟩ := A4.out.2 hc4
     obtain ⟨hc2, h3⟩ := A3.out.2 hc3
     obtain ⟨hc1, h2⟩ := A2.out.2 hc2
     obtain ⟨hc0, h1⟩ := A1.out.2 hc1
     obtain ⟨t4, hp4, hl4⟩ := P4.out hc4
     obtain ⟨t7, hp7, hl7⟩ := P7.out hc7
     obtain ⟨t13, hp13, hl13⟩ := P13.out hc13
     have hE := els_build (L := w.heap.size) (W := w15) (es := [(k4, [.int .i64 k4, .int .i64 a4, .int .i64 op4, .int .i64 wd4, .int .u64 n4, .string nm4, .slice sa4 sl4 sc4], t4), (k7, [.int .i64 k7, .int .i64 a7, .int .i64 op7, .int .i64 wd7, .int .u64 n7, .string nm7, .slice sa7 sl7 sc7], t7), (k13, [.int .i64 k13, .int .i64 a13, .int .i64 op13, .int .i64 wd13, .int .u64 n13, .string nm13, .slice sa13 sl13 sc13], t13)]) (arr := #[.int .i64 k4, .int .i64 a4, .int .i64 op4, .int .i64 wd4, .int .u64 n4, .string nm4, .slice sa4 sl4 sc4, .int .i64 k7, .int .i64 a7, .int .i64 op7, .int .i64 wd7, .int .u64 n7, .string nm7, .slice sa7 sl7 sc7, .int .i64 k13, .int .i64 a13, .int .i64 op13, .int .i64 wd13, .int .u64 n13, .string nm13, .slice sa13 sl13 sc13]) (by
      intro x hx
      simp only [List.mem_cons, List.not_mem_nil, or_false] at hx
      rcases hx with rfl | rfl | rfl
      ·exact pe_le ((hp4.kq K5.out (by omega)).kq K5_15.out (by omega)) (by omega)
      ·exact pe_le ((hp7.kq K8.out (by omega)).kq K9_15.out (by omega)) (by omega)
      ·exact pe_le ((hp13.kq K14.out (by omega)).kq K15.out (by omega)) (by omega)) rfl (by omega) (by simp)
     refine ⟨_, els_drew hE, rfl, ?_⟩
     simp only [List.map_cons, List.map_nil, List.flatten_cons, List.flatten_nil, lnA, lnN]
     omega
   case false =>
    go_wp2_with fail
    clear f0 f1 f2 f3 f4 f5 f6 f7 f8 fz hT
    refine (fail_st X9.out).mono ?_
    rintro e w10 ⟨rfl, hk, c10, hc10, hx⟩
    have z10 : w9.heap.size ≤ w10.heap.size := hk.size
    have K10 : Hid (Kq br w9 w10) := hk
    have X10 := hI hx
    have C10 := hI hc10
    clear hk hx hc10
    go_wp2_with fail
    refine (name_any X10.out).mono ?_
    rintro e w11 ⟨nm11, rfl, hnm11, hk, c11, m11, hx, ha⟩
    have z11 : w10.heap.size ≤ w11.heap.size := hk.size
    have K11 : Hid (Kq br w10 w11) := hk
    have X11 := hI hx
    have A11 := hI ha
    clear hk hx ha
    go_wp2_with fail
    refine (must_any X11.out _).mono ?_
    rintro e w12 ⟨rfl, hk, c12, m12, hx, ha⟩
    have z12 : w11.heap.size ≤ w12.heap.size := hk.size
    have K12 : Hid (Kq br w11 w12) := hk
    have X12 := hI hx
    have A12 := hI ha
    clear hk hx ha
    go_wp2_with fail
    refine (expr_read X12.out).mono ?_
    rintro e w13 ⟨k13, a13, op13, wd13, n13, nm13, sa13, sl13, sc13, rfl, hk, c13, m13, hx, ha, hp⟩
    have z13 : w12.heap.size ≤ w13.heap.size := hk.size
    have K13 : Hid (Kq br w12 w13) := hk
    have XX := hI hx
    have A13 := hI ha
    have P13 := hI hp
    clear hk hx ha hp
    go_wp2_with fail
    generalize hWW : w13.alloc (.cells _ 55) = w14
    obtain ⟨zz, B13, oo, kk⟩ := one_box hWW
    have z14 : w13.heap.size < w14.heap.size := by omega
    have K14 : Hid (Kq br w13 w14) := kk br
    have X14 : Hid (Sx br s w14 c13 m13) := XX.out.to (oo br (by omega))
    have B13 := hI B13
    clear hWW zz oo kk XX
    refine (must_any X14.out _).mono ?_
    rintro e w15 ⟨rfl, hk, c15, m15, hx, ha⟩
    have z15 : w14.heap.size ≤ w15.heap.size := hk.size
    have K15 : Hid (Kq br w14 w15) := hk
    have X15 := hI hx
    have A15 := hI ha
    clear hk hx ha
    have K9_15 : Hid (Kq br w8 w15) := (K9.out.trans K10.out).trans (K11.out.trans (K12.out.trans (K13.out.trans (K14.out.trans K15.out))))
    have K5_15 : Hid (Kq br w5 w15) := K6.out.trans (K7.out.trans (K8.out.trans K9_15.out))
    have K0_5 : Hid (Kq br w w5) := K1.out.trans (K2.out.trans (K3.out.trans (K4.out.trans K5.out)))
    have y15 : w8.heap.size ≤ w15.heap.size := K9_15.out.size
    have b4 := (K5_15.out.block w4.heap.size (by omega) (by omega)).trans B4.out
    have b7 := (K9_15.out.block w7.heap.size (by omega) (by omega)).trans B7.out
    have b13 := (K15.out.block w13.heap.size (by omega) (by omega)).trans B13.out
    obtain ⟨p0, p1, p2, p3, p4, p5, p6, pf, pl⟩ := bx b4
    obtain ⟨q0, q1, q2, q3, q4, q5, q6, qf, ql⟩ := bx b7
    obtain ⟨y0, y1, y2, y3, y4, y5, y6, yf, yl⟩ := bx b13
    clear b4 b7 b13
    go_wp2_with fail
    go_region
    all_goals
     go_wp2_with fail
     go_ret2
     refine ⟨nm2, some ⟨w15.heap.size, 0, none⟩, 3, 3, rfl, hnm2, ((K0_5.out.trans K5_15.out).alloc _).drew, c15, m15, ((X15.out.alloc _).drew), (bad_adv (by have h1 := A1.out.1; have h2 := A2.out.1; have h3 := A3.out.1; have h4 := A4.out.1; have h6 := A6.out.1; have h7 := A7.out.1; have h9 := A9.out.1; have h11 := A11.out.1; have h12 := A12.out.1; have h13 := A13.out.1; have h15 := A15.out.1; omega) (fun h => C10.out (A11.out.2 (A12.out.2 (A13.out.2 (A15.out.2 h).1).1).1).1)), fun hc => ?_⟩
     exact absurd (A11.out.2 (A12.out.2 (A13.out.2 (A15.out.2 hc).1).1).1).1 C10.out
  ·have g1 : (kt != 1) = true := bne_iff_ne.2 hk1
   clear hk1
   go_wp2_with fail
   clear f0 f1 f2 f3 f4 f5 f6 f7 f8 fz g1
   refine (fail_st X9.out).mono ?_
   rintro e w10 ⟨rfl, hk, c10, hc10, hx⟩
   have z10 : w9.heap.size ≤ w10.heap.size := hk.size
   have K10 : Hid (Kq br w9 w10) := hk
   have X10 := hI hx
   have C10 := hI hc10
   clear hk hx hc10
   go_wp2_with fail
   refine (name_any X10.out).mono ?_
   rintro e w11 ⟨nm11, rfl, hnm11, hk, c11, m11, hx, ha⟩
   have z11 : w10.heap.size ≤ w11.heap.size := hk.size
   have K11 : Hid (Kq br w10 w11) := hk
   have X11 := hI hx
   have A11 := hI ha
   clear hk hx ha
   go_wp2_with fail
   refine (must_any X11.out _).mono ?_
   rintro e w12 ⟨rfl, hk, c12, m12, hx, ha⟩
   have z12 : w11.heap.size ≤ w12.heap.size := hk.size
   have K12 : Hid (Kq br w11 w12) := hk
   have X12 := hI hx
   have A12 := hI ha
   clear hk hx ha
   go_wp2_with fail
   refine (expr_read X12.out).mono ?_
   rintro e w13 ⟨k13, a13, op13, wd13, n13, nm13, sa13, sl13, sc13, rfl, hk, c13, m13, hx, ha, hp⟩
   have z13 : w12.heap.size ≤ w13.heap.size := hk.size
   have K13 : Hid (Kq br w12 w13) := hk
   have XX := hI hx
   have A13 := hI ha
   have P13 := hI hp
   clear hk hx ha hp
   go_wp2_with fail
   generalize hWW : w13.alloc (.cells _ 55) = w14
   obtain ⟨zz, B13, oo, kk⟩ := one_box hWW
   have z14 : w13.heap.size < w14.heap.size := by omega
   have K14 : Hid (Kq br w13 w14) := kk br
   have X14 : Hid (Sx br s w14 c13 m13) := XX.out.to (oo br (by omega))
   have B13 := hI B13
   clear hWW zz oo kk XX
   refine (must_any X14.out _).mono ?_
   rintro e w15 ⟨rfl, hk, c15, m15, hx, ha⟩
   have z15 : w14.heap.size ≤ w15.heap.size := hk.size
   have K15 : Hid (Kq br w14 w15) := hk
   have X15 := hI hx
   have A15 := hI ha
   clear hk hx ha
   have K9_15 : Hid (Kq br w8 w15) := (K9.out.trans K10.out).trans (K11.out.trans (K12.out.trans (K13.out.trans (K14.out.trans K15.out))))
   have K5_15 : Hid (Kq br w5 w15) := K6.out.trans (K7.out.trans (K8.out.trans K9_15.out))
   have K0_5 : Hid (Kq br w w5) := K1.out.trans (K2.out.trans (K3.out.trans (K4.out.trans K5.out)))
   have y15 : w8.heap.size ≤ w15.heap.size := K9_15.out.size
   have b4 := (K5_15.out.block w4.heap.size (by omega) (by omega)).trans B4.out
   have b7 := (K9_15.out.block w7.heap.size (by omega) (by omega)).trans B7.out
   have b13 := (K15.out.block w13.heap.size (by omega) (by omega)).trans B13.out
   obtain ⟨p0, p1, p2, p3, p4, p5, p6, pf, pl⟩ := bx b4
   obtain ⟨q0, q1, q2, q3, q4, q5, q6, qf, ql⟩ := bx b7
   obtain ⟨y0, y1, y2, y3, y4, y5, y6, yf, yl⟩ := bx b13
   clear b4 b7 b13
   go_wp2_with fail
   go_region
   all_goals
    go_wp2_with fail
    go_ret2
    refine ⟨nm2, some ⟨w15.heap.size, 0, none⟩, 3, 3, rfl, hnm2, ((K0_5.out.trans K5_15.out).alloc _).drew, c15, m15, ((X15.out.alloc _).drew), (bad_adv (by have h1 := A1.out.1; have h2 := A2.out.1; have h3 := A3.out.1; have h4 := A4.out.1; have h6 := A6.out.1; have h7 := A7.out.1; have h9 := A9.out.1; have h11 := A11.out.1; have h12 := A12.out.1; have h13 := A13.out.1; have h15 := A15.out.1; omega) (fun h => C10.out (A11.out.2 (A12.out.2 (A13.out.2 (A15.out.2 h).1).1).1).1)), fun hc => ?_⟩
    exact absurd (A11.out.2 (A12.out.2 (A13.out.2 (A15.out.2 hc).1).1).1).1 C10.out
 ·have g1 : (c9 == 0) = false := beq_eq_false_iff_ne.2 hc
  clear hc
  go_wp2_with fail
  clear f0 f1 f2 f3 f4 f5 f6 f7 f8 fz g1
  refine (name_any X9.out).mono ?_
  rintro e w11 ⟨nm11, rfl, hnm11, hk, c11, m11, hx, ha⟩
  have z11 : w9.heap.size ≤ w11.heap.size := hk.size
  have K11 : Hid (Kq br w9 w11) := hk
  have X11 := hI hx
  have A11 := hI ha
  clear hk hx ha
  go_wp2_with fail
  refine (must_any X11.out _).mono ?_
  rintro e w12 ⟨rfl, hk, c12, m12, hx, ha⟩
  have z12 : w11.heap.size ≤ w12.heap.size := hk.size
  have K12 : Hid (Kq br w11 w12) := hk
  have X12 := hI hx
  have A12 := hI ha
  clear hk hx ha
  go_wp2_with fail
  refine (expr_read X12.out).mono ?_
  rintro e w13 ⟨k13, a13, op13, wd13, n13, nm13, sa13, sl13, sc13, rfl, hk, c13, m13, hx, ha, hp⟩
  have z13 : w12.heap.size ≤ w13.heap.size := hk.size
  have K13 : Hid (Kq br w12 w13) := hk
  have XX := hI hx
  have A13 := hI ha
  have P13 := hI hp
  clear hk hx ha hp
  go_wp2_with fail
  generalize hWW : w13.alloc (.cells _ 55) = w14
  obtain ⟨zz, B13, oo, kk⟩ := one_box hWW
  have z14 : w13.heap.size < w14.heap.size := by omega
  have K14 : Hid (Kq br w13 w14) := kk br
  have X14 : Hid (Sx br s w14 c13 m13) := XX.out.to (oo br (by omega))
  have B13 := hI B13
  clear hWW zz oo kk XX
  refine (must_any X14.out _).mono ?_
  rintro e w15 ⟨rfl, hk, c15, m15, hx, ha⟩
  have z15 : w14.heap.size ≤ w15.heap.size := hk.size
  have K15 : Hid (Kq br w14 w15) := hk
  have X15 := hI hx
  have A15 := hI ha
  clear hk hx ha
  have K9_15 : Hid (Kq br w8 w15) := K9.out.trans (K11.out.trans (K12.out.trans (K13.out.trans (K14.out.trans K15.out))))
  have K5_15 : Hid (Kq br w5 w15) := K6.out.trans (K7.out.trans (K8.out.trans K9_15.out))
  have K0_5 : Hid (Kq br w w5) := K1.out.trans (K2.out.trans (K3.out.trans (K4.out.trans K5.out)))
  have y15 : w8.heap.size ≤ w15.heap.size := K9_15.out.size
  have b4 := (K5_15.out.block w4.heap.size (by omega) (by omega)).trans B4.out
  have b7 := (K9_15.out.block w7.heap.size (by omega) (by omega)).trans B7.out
  have b13 := (K15.out.block w13.heap.size (by omega) (by omega)).trans B13.out
  obtain ⟨p0, p1, p2, p3, p4, p5, p6, pf, pl⟩ := bx b4
  obtain ⟨q0, q1, q2, q3, q4, q5, q6, qf, ql⟩ := bx b7
  obtain ⟨y0, y1, y2, y3, y4, y5, y6, yf, yl⟩ := bx b13
  clear b4 b7 b13
  go_wp2_with fail
  go_region
  all_goals
   go_wp2_with fail
   go_ret2
   refine ⟨nm2, some ⟨w15.heap.size, 0, none⟩, 3, 3, rfl, hnm2, ((K0_5.out.trans K5_15.out).alloc _).drew, c15, m15, ((X15.out.alloc _).drew), (A1.out.trans (A2.out.trans (A3.out.trans (A4.out.trans (A6.out.trans (A7.out.trans (A9.out.trans (A11.out.trans (A12.out.trans (A13.out.trans A15.out)))))))))), fun hc => ?_⟩
   obtain ⟨hc13, h15⟩ := A15.out.2 hc
   obtain ⟨hc12, h13⟩ := A13.out.2 hc13
   obtain ⟨hc11, h12⟩ := A12.out.2 hc12
   obtain ⟨hc9, h11⟩ := A11.out.2 hc11
   obtain ⟨hc7, h9⟩ := A9.out.2 hc9
   obtain ⟨hc6, h7⟩ := A7.out.2 hc7
   obtain ⟨hc4, h6⟩ := A6.out.2 hc6
   obtain ⟨hc3, h4⟩ := A4.out.2 hc4
   obtain ⟨hc2, h3⟩ := A3.out.2 hc3
   obtain ⟨hc1, h2⟩ := A2.out.2 hc2
   obtain ⟨hc0, h1⟩ := A1.out.2 hc1
   obtain ⟨t4, hp4, hl4⟩ := P4.out hc4
   obtain ⟨t7, hp7, hl7⟩ := P7.out hc7
   obtain ⟨t13, hp13, hl13⟩ := P13.out hc13
   have hE := els_build (L := w.heap.size) (W := w15) (es := [(k4, [.int .i64 k4, .int .i64 a4, .int .i64 op4, .int .i64 wd4, .int .u64 n4, .string nm4, .slice sa4 sl4 sc4], t4), (k7, [.int .i64 k7, .int .i64 a7, .int .i64 op7, .int .i64 wd7, .int .u64 n7, .string nm7, .slice sa7 sl7 sc7], t7), (k13, [.int .i64 k13, .int .i64 a13, .int .i64 op13, .int .i64 wd13, .int .u64 n13, .string nm13, .slice sa13 sl13 sc13], t13)]) (arr := #[.int .i64 k4, .int .i64 a4, .int .i64 op4, .int .i64 wd4, .int .u64 n4, .string nm4, .slice sa4 sl4 sc4, .int .i64 k7, .int .i64 a7, .int .i64 op7, .int .i64 wd7, .int .u64 n7, .string nm7, .slice sa7 sl7 sc7, .int .i64 k13, .int .i64 a13, .int .i64 op13, .int .i64 wd13, .int .u64 n13, .string nm13, .slice sa13 sl13 sc13]) (by
    intro x hx
    simp only [List.mem_cons, List.not_mem_nil, or_false] at hx
    rcases hx with rfl | rfl | rfl
    ·exact pe_le ((hp4.kq K5.out (by omega)).kq K5_15.out (by omega)) (by omega)
    ·exact pe_le ((hp7.kq K8.out (by omega)).kq K9_15.out (by omega)) (by omega)
    ·exact pe_le ((hp13.kq K14.out (by omega)).kq K15.out (by omega)) (by omega)) rfl (by omega) (by simp)
   refine ⟨_, els_drew hE, rfl, ?_⟩
   simp only [List.map_cons, List.map_nil, List.flatten_cons, List.flatten_nil, lnA, lnN]
   omega
theorem all_target (M : Nat) : CTarget M := by
 induction M using Nat.strongRecOn with
 | _ M ih => exact target_any M ih (all_ex M).place
theorem target_read {br : Nat} {s : ByteArray} {c : Int} {m : Nat} {w : World} (h : Sx br s w c m) : Calls Tryz.prog 56 #[.pointer (some ⟨br, 0, none⟩)] w (ExPost br s c m w) := all_target _ br s c m w h (Nat.le_refl _)
def RowOf (S : Nat → Prop) (w : World) (sz : Nat) (v : Value) (xs : List (List Value)) : Prop :=
 (v = .slice none 0 0 ∧ xs = []) ∨
 ∃ b cap, v = .slice (some ⟨b, 0, none⟩) xs.length cap ∧ S b ∧ xs.length ≤ cap ∧ xs ≠ [] ∧ ∀ i x, xs[i]? = some x → x.length = sz ∧ ∀ j u, x[j]? = some u → w.cell? ⟨b, i * sz + j, none⟩ = some u
theorem RowOf.mono {S S' : Nat → Prop} {w w' : World} (hS : ∀ b, S b → S' b) (hw : ∀ b o v, S b → w.cell? ⟨b, o, none⟩ = some v → w'.cell? ⟨b, o, none⟩ = some v) {sz : Nat} {v : Value} {xs : List (List Value)} (h : RowOf S w sz v xs) : RowOf S' w' sz v xs := by
 rcases h with h | ⟨b, cap, hv, hb, hc, hn, hx⟩
 ·exact .inl h
 ·exact .inr ⟨b, cap, hv, hS b hb, hc, hn, fun i x hi => ⟨(hx i x hi).1, fun j u hu => hw _ _ _ hb ((hx i x hi).2 j u hu)⟩⟩
theorem ElsS.row {S : Nat → Prop} {L : Nat} {w : World} {v : Value} {es : List Ele} (h : ElsS S L w v es) (hn : 1 ≤ es.length) : RowOf S w 7 v (es.map (·.2.1)) := by
 rcases h.1.2 with ⟨_, h0⟩ | ⟨g, cap, cur, hv, hL, hg, hc, _, hsz, htk⟩
 ·omega
 ·have hSg := h.2.1 g (by rw [hv]; rfl)
  have h7 : ∀ y ∈ es, y.2.1.length = 7 := fun y hy => (h.2.2 y hy).len
  refine .inr ⟨g, cap, by rw [List.length_map]; exact hv, hSg, by rw [List.length_map]; exact hc, ?_, fun i x hi => ?_⟩
  ·intro e
   have := congrArg List.length e
   simp at this; subst this; simp at hn
  ·rw [List.getElem?_map] at hi
   obtain ⟨y, hy, rfl⟩ := Option.map_eq_some_iff.1 hi
   have hy7 := h7 y (List.mem_of_getElem? hy)
   refine ⟨hy7, fun j u hu => ?_⟩
   have hj : j < 7 := by
    have := (List.getElem?_eq_some_iff.1 hu).1
    rw [hy7] at this; exact this
   have hf := flat_get (fun y : Ele => y.2.1) es h7 i j hj
   rw [hy] at hf
   simp only [Option.bind_some] at hf
   rw [hu, ← htk, List.getElem?_take] at hf
   split at hf
   ·simp only [World.cell?, hg]
    simpa using hf
   ·cases hf
structure ArmD where
 dflt : Bool
 labels : List Ele
 vl : Value
 body : List Value
 tb : List UInt8
def armTxt (d : ArmD) : List UInt8 := (if d.dflt then [100, 101, 102, 97, 117, 108, 116] else commaTxt (d.labels.map (·.2.2))) ++ [58, 32] ++ d.tb
def loopTxt (nm t0 t1 t2 : List UInt8) : List UInt8 := [102, 111, 114, 32, 40] ++ nm ++ [32, 61, 32] ++ t0 ++ [59, 32] ++ t1 ++ [59, 32] ++ nm ++ [32, 61, 32] ++ t2 ++ [41, 32]
def spaced (l : List (List UInt8)) : List UInt8 := (l.map (· ++ [32])).flatten
def stTxt (k : Int) (later : Bool) (nm : List UInt8) (xs ss ar : List (List UInt8)) : List UInt8 :=
 let x := fun i : Nat => xs.getD i []
 let s := fun i : Nat => ss.getD i []
 if k = 1 then [59]
 else if k = 2 then [98, 101, 103, 105, 110, 32] ++ spaced ss ++ [101, 110, 100]
 else if k = 3 then [105, 102, 32, 40] ++ x 0 ++ [41, 32] ++ s 0 ++ (if ss.length = 2 then [32, 101, 108, 115, 101, 32] ++ s 1 else [])
 else if k = 4 then [99, 97, 115, 101, 32, 40] ++ x 0 ++ [41, 32] ++ spaced ar ++ [101, 110, 100, 99, 97, 115, 101]
 else if k = 6 then loopTxt nm (x 0) (x 1) (x 2) ++ s 0
 else x 0 ++ (if later then [32, 60, 61, 32] else [32, 61, 32]) ++ x 1 ++ [59]
def SShape (k : Int) (nx ns : Nat) (ar : List ArmD) : Prop :=
 (k = 1 ∧ nx = 0 ∧ ns = 0 ∧ ar = []) ∨ (k = 2 ∧ nx = 0 ∧ ar = []) ∨ (k = 3 ∧ nx = 1 ∧ (ns = 1 ∨ ns = 2) ∧ ar = []) ∨ (k = 4 ∧ nx = 1 ∧ ns = 0 ∧ ∀ d ∈ ar, d.dflt = false → 1 ≤ d.labels.length) ∨ (k = 5 ∧ nx = 2 ∧ ns = 0 ∧ ar = []) ∨ (k = 6 ∧ nx = 3 ∧ ns = 1 ∧ ar = [])
inductive PS (S : Nat → Prop) (w : World) : List Value → List UInt8 → Prop
 | node (k a : Int) (later : Bool) (nm : List UInt8) (xs : List Ele) (vx : Value) (ss : List (List Value × List UInt8)) (vs : Value) (ar : List ArmD) (va : Value)
   (hk : SShape k xs.length ss.length ar)
   (hx : RowOf S w 7 vx (xs.map (·.2.1))) (hxe : ∀ x ∈ xs, PE S w x.1 x.2.1 x.2.2)
   (hs : RowOf S w 7 vs (ss.map (·.1))) (hse : ∀ (i : Nat) (x : List Value × List UInt8), ss[i]? = some x → PS S w x.1 x.2)
   (ha : RowOf S w 9 va (ar.map fun d => .bool d.dflt :: d.vl :: d.body))
   (hal : ∀ d ∈ ar, RowOf S w 7 d.vl (d.labels.map (·.2.1)) ∧ ∀ x ∈ d.labels, PE S w x.1 x.2.1 x.2.2)
   (hab : ∀ (i : Nat) (d : ArmD), ar[i]? = some d → PS S w d.body d.tb) :
   PS S w [.int .i64 k, .int .i64 a, .bool later, .string (bs nm), vx, vs, va] (stTxt k later nm (xs.map (·.2.2)) (ss.map (·.2)) (ar.map armTxt))
theorem PS.mono {S S' : Nat → Prop} {w w' : World} (hS : ∀ b, S b → S' b) (hw : ∀ b o v, S b → w.cell? ⟨b, o, none⟩ = some v → w'.cell? ⟨b, o, none⟩ = some v) {cs : List Value} {t : List UInt8} (h : PS S w cs t) : PS S' w' cs t := by
 induction h with
 | node k a later nm xs vx ss vs ar va hk hx hxe hs _ ha hal _ ihs iha =>
  exact PS.node k a later nm xs vx ss vs ar va hk (hx.mono hS hw) (fun x h => (hxe x h).mono hS hw) (hs.mono hS hw) ihs (ha.mono hS hw) (fun d h => ⟨(hal d h).1.mono hS hw, fun x hx => ((hal d h).2 x hx).mono hS hw⟩) iha
end Go.Proofs.YtimmmlnememjiaaGreatDoor
