import Derived.Test.YtimmmlnememjiaaGreatDoorX
import Derived.Test.YtimmmlnememjiaaGreatDoorX06
set_option maxRecDepth 100000
set_option maxHeartbeats 16000000
namespace Go.Proofs.YtimmmlnememjiaaGreatDoor
open Go.RowKit
theorem Els.form {L : Nat} {w : World} {sa : Option Addr} {n cap : Nat} {es : List Ele} (h : Els L w (.slice sa n cap) es) (hn : 1 ≤ es.length) : ∃ g, sa = some ⟨g, 0, none⟩ ∧ n = es.length := by
 obtain ⟨g, cap', e, h1, h2⟩ := h.1.form hn
 cases e; exact ⟨g, rfl, rfl⟩
theorem Els.own {L : Nat} {w : World} {v : Value} {es : List Ele} (h : Els L w v es) (hn : 1 ≤ es.length) : ∀ g, v.ownBlock = some g → L ≤ g ∧ g < w.heap.size := by
 obtain ⟨g, cap', rfl, h1, h2⟩ := h.1.form hn
 intro g' e
 simp [Value.ownBlock] at e
 subst e; exact ⟨h1, h2⟩
theorem braces_any (M : Nat) (IH : ∀ M', M' < M → CExpr M') (IB : ∀ M', M' < M → CBraces M') : CBraces M := by
 intro p br s m w h hM
 have HX := hI h
 have HM := hI hM
 have HI := hI IH
 have HIB := hI IB
 clear hM IH IB
 obtain ⟨k, wd, n, T, a, q, fa, hr, h'⟩ := h
 clear h'
 have hlt := hr.lt
 obtain ⟨c0, c1, c2, c3, c4, c5, c6, c7, c8, fz⟩ := hr.all
 clear hr
 go_enter Tryz.func86, Tryz.ntmps86
 go_wp2_with fail
 generalize hW : (w.alloc (.cells _ 55)).alloc (.cells _ 55) = W
 obtain ⟨hz, r0, e0, KW, SW⟩ := two_boxes hW
 have KW := KW br
 have SW := SW br s 0 m HX.out
 clear hW c0 c1 c2 c3 c4 c5 c6 c7 c8 fz
 refine (must_any SW.out _).mono ?_
 rintro e w1 ⟨rfl, hk1, c1, m1, hx1, ha1⟩
 have e1 := (hk1.block (w.heap.size + 1) (by omega) (by omega)).trans e0
 have r1 := (hk1.block w.heap.size (by omega) (by omega)).trans r0
 have K1 : Hid (Kq br w w1) := KW.out.trans hk1
 have z1 : w.heap.size + 2 ≤ w1.heap.size := by have := hk1.size; omega
 have X1 := hI hx1
 have A1 := hI ha1
 have HL : Hid (meas c1 m1 < M) := meas_zero_lt ha1 HM.out
 clear hk1 hx1 ha1 KW SW e0 r0 hz
 go_wp2_with fail
 refine (HI.out _ HL.out br s c1 m1 w1 X1.out (Nat.le_refl _)).mono ?_
 rintro e w4 ⟨k4, a4, op4, wd4, n4, nm4, sa4, sl4, sc4, rfl, hk4, c4, m4, hx4, ha4, hp4⟩
 have e4 := (hk4.block (w.heap.size + 1) (by omega) (by omega)).trans e1
 have r4 := (hk4.block w.heap.size (by omega) (by omega)).trans r1
 have z4 : w.heap.size + 2 ≤ w4.heap.size := by have := hk4.size; omega
 have K4 : Hid (Kq br w w4) := K1.out.trans hk4
 have X4 := hI hx4
 have A4 := hI ha4
 have P4 := hI hp4
 have E4 := hI e4
 have R4 := hI r4
 clear hk4 hx4 ha4 hp4 e1 r1 K1 HL
 obtain ⟨p0, p1, p2, p3, p4, p5, p6, pf, pl⟩ := bx e4
 clear e4 r4
 obtain ⟨i55, hi, hz, hsz, hby⟩ := info55'
 have HI5 := hI hi
 have HZ5 := hI hz
 have HS5 := hI hsz
 have HB5 := hI hby
 clear hi hz hsz hby
 go_wp2_with (at_builtin; refine wpList_append_lies _ rfl (.tmp 21) (.tmp 23) 53 rfl (w.heap.size + 2) 55 i55 _ 7 80 Tryz.underlying53 HI5.out HZ5.out HS5.out HB5.out rfl (by decide) (.slice none 0 0) 0 _ rfl (World.ownsRow_nil _ _ _ _) ⟨w4.heap.size + 1, 0, none⟩ 1 1 [.int .i64 k4, .int .i64 a4, .int .i64 op4, .int .i64 wd4, .int .u64 n4, .string nm4, .slice sa4 sl4 sc4] rfl rfl (seven_new _ _ _ _ _ _ _ _ _ _) seven_one (by decide) (by simp only [maxLen]; omega) (by omega) (by simp; omega) _ rfl ?_; intro g5 cap5 w5 hownX hgrowX hatX hltX; have eX := (grown_box hgrowX (k := w.heap.size + 1) pl (by simp [Value.ownBlock]; try omega)).trans E4.out; have O5 := hI hownX; have G5 := hI hgrowX; have T5 := hI hatX; clear hownX hgrowX hatX; obtain ⟨p0, p1, p2, p3, p4, p5, p6, pf, plX⟩ := bx eX; clear eX)
 generalize hS : w5.setCell ⟨w.heap.size + 1, 6, none⟩ _ = w6
 obtain ⟨K6, X6, e6, r6, o6, z6, zz6⟩ := app_done z4 hlt K4.out X4.out E4.out R4.out G5.out (by simp [Value.ownBlock]) hS
 have LST := hI (lst_first P4.out (fun h => (A4.out.2 h).2) z1 O5.out G5.out T5.out o6.out)
 have A14 : Hid (Adv 0 m c4 m4) := A1.out.trans A4.out
 clear hS o6 zz6 p0 p1 p2 p3 p4 p5 p6 pf pl plX P4 E4 R4 X4 K4 z4 O5 G5 T5 HI5 HZ5 HS5 HB5 hltX
 obtain ⟨k6, wd6, n6, T6, hst⟩ := X6.out
 refine (is_st hst _).mono ?_
 rintro e w6 ⟨b, rfl, rfl, hb⟩
 have HBk := hI hb
 clear hb hst
 by_cases hbp : b = true ∧ p = false
 ·obtain ⟨rfl, rfl⟩ := hbp
  have hc4 := (HBk.out rfl).1
  subst hc4
  obtain ⟨es, hE, hn1, hn2, hn3⟩ := LST.out rfl
  obtain ⟨gq, hgq, hl0⟩ := hE.form hn1
  have hl1 : es.length = 1 := hl0.symm
  clear hl0
  obtain ⟨x0, rfl⟩ := List.length_eq_one_iff.1 hl1
  have hgo := hE.own hn1 g5 rfl
  have HE := hI hE
  have HN3 : Hid (x0.2.2.length ≤ 64 * (m1 - m4)) := hn3
  have HLb : Hid (m4 + 1 < M) := by
   have h1 := (A14.out.2 rfl).2
   have h2 := HM.out
   show _ < _
   omega
  have hg1 : w.heap.size + 2 ≤ g5 := hgo.1
  have hg2 : g5 < w6.heap.size := hgo.2
  have hgne : ¬ w.heap.size + 1 = g5 := by omega
  have E6 := hI e6
  have R6 := hI r6
  clear hE hn1 hn2 hn3 hgq hl1 hgo LST HBk e6 r6
  go_wp2_with fail
  refine (HIB.out (m4 + 1) HLb.out true br s m4 w6 X6.out (Nat.le_refl _)).mono ?_
  rintro e w8 ⟨k8, a8, op8, wd8, n8, nm8, sa8, sl8, sc8, rfl, hk8, c8, m8, hx8, ha8, hp8⟩
  have e8 := (hk8.block (w.heap.size + 1) (by omega) (by omega)).trans E6.out
  have r8 := (hk8.block w.heap.size (by omega) (by omega)).trans R6.out
  have z8 : w.heap.size + 2 ≤ w8.heap.size := by have := hk8.size; omega
  have K8 : Hid (Kq br w w8) := K6.out.trans hk8
  have HE8 := hI (HE.out.kq hk8 (by omega))
  have X8 := hI hx8
  have A8 := hI ha8
  have P8 := hI hp8
  have E8 := hI e8
  have R8 := hI r8
  have Z6 := hI z6
  clear hk8 hx8 ha8 hp8 E6 R6 K6 X6 HLb HE
  obtain ⟨p0, p1, p2, p3, p4, p5, p6, pf, pl⟩ := bx e8
  clear e8 r8
  obtain ⟨i55, hi, hz, hsz, hby⟩ := info55'
  have HI5 := hI hi
  have HZ5 := hI hz
  have HS5 := hI hsz
  have HB5 := hI hby
  clear hi hz hsz hby
  go_wp2_with (at_builtin; refine wpList_append_lies _ rfl (.tmp 36) (.tmp 38) 53 rfl (w.heap.size + 2) 55 i55 _ 7 80 Tryz.underlying53 HI5.out HZ5.out HS5.out HB5.out rfl (by decide) (.slice (some ⟨g5, 0, none⟩) 1 cap5) 1 _ rfl (els_alloc2 HE8.out _ _).1 ⟨w8.heap.size + 1, 0, none⟩ 1 1 [.int .i64 k8, .int .i64 a8, .int .i64 op8, .int .i64 wd8, .int .u64 n8, .string nm8, .slice sa8 sl8 sc8] rfl rfl (seven_new _ _ _ _ _ _ _ _ _ _) seven_one (by decide) (by simp only [maxLen]; omega) (by omega) (by simp; omega) _ rfl ?_; intro gB capB wB hownX hgrowX hatX hltX; have eX := (grown_box hgrowX (k := w.heap.size + 1) pl (by simp [Value.ownBlock]; try omega)).trans E8.out; have OB := hI hownX; have GB := hI hgrowX; have TB := hI hatX; clear hownX hgrowX hatX; obtain ⟨p0, p1, p2, p3, p4, p5, p6, pf, plX⟩ := bx eX; clear eX)
  generalize hS : wB.setCell ⟨w.heap.size + 1, 6, none⟩ _ = w10
  obtain ⟨K10, X10, e10, r10, o10, z10, zz10⟩ := app_done z8 hlt K8.out X8.out E8.out R8.out GB.out (by intro k hk; simp [Value.ownBlock] at hk; omega) hS
  generalize hS3 : w10.setCell ⟨w.heap.size + 1, 0, none⟩ _ = w11
  obtain ⟨e11, z11, o11, k11, x11⟩ := set_box hS3 e10
  have K11 := k11 br w K10.out (by omega)
  have X11 := x11 br s c8 m8 X10.out (by omega)
  have r11 := (o11 w.heap.size (by omega)).trans r10
  have P11 : Hid (c8 = 0 → ∃ t2, Els (w.heap.size + 2) w11 (.slice (some ⟨gB, 0, none⟩) 2 capB) [x0, (k8, [.int .i64 k8, .int .i64 a8, .int .i64 op8, .int .i64 wd8, .int .u64 n8, .string nm8, .slice sa8 sl8 sc8], t2)] ∧ t2.length ≤ 64 * (m4 - m8)) := by
   intro hc
   obtain ⟨t2, hp, hl⟩ := P8.out hc
   refine ⟨t2, ?_, hl⟩
   have hE := els_push (L := w.heap.size + 2) (N := w6.heap.size) HE8.out (k8, [.int .i64 k8, .int .i64 a8, .int .i64 op8, .int .i64 wd8, .int .u64 n8, .string nm8, .slice sa8 sl8 sc8], t2) hp (by intro g hg; simp [Value.ownBlock] at hg; omega) Z6.out OB.out GB.out TB.out
   exact hE.to fun k hk _ => by rw [o11 k (by omega), o10.out k hk]
  have E11 := hI e11
  have R11 := hI r11
  have z11' : w.heap.size + 2 ≤ w11.heap.size := by omega
  clear hS hS3 k11 x11 o11 o10 e10 e11 r10 r11 zz10 z11 P8 E8 R8 X8 K8 OB GB TB HE8 K10 X10 p0 p1 p2 p3 p4 p5 p6 pf pl plX hltX HI5 HZ5 HS5 HB5
  refine (must_any X11.out _).mono ?_
  rintro e w9 ⟨rfl, hk9, c9, m9, hx9, ha9⟩
  have e9 := (hk9.block (w.heap.size + 1) (by omega) (by omega)).trans E11.out
  have r9 := (hk9.block w.heap.size (by omega) (by omega)).trans R11.out
  have K9 : Hid (Kq br w w9) := K11.out.trans hk9
  have K9' := hI hk9
  have X9 := hI hx9
  have A9 := hI ha9
  obtain ⟨p0, p1, p2, p3, p4, p5, p6, pf, pl⟩ := bx e9
  obtain ⟨q0, q1, q2, q3, q4, q5, q6, qf, ql⟩ := bx r9
  clear e9 r9 hk9 hx9 ha9
  go_wp2_with fail
  refine bodyPost_ret (v := .agg #[.int .i64 9, .int .i64 a, .int .i64 0, .int .i64 0, .int .u64 0, .string ⟨#[]⟩, .slice (some ⟨gB, 0, none⟩) 2 capB]) (by simp [results, Tryz.results86, go_sem, *]) rfl (ex_close hlt K9.out X9.out (A14.out.trans (A8.out.trans A9.out)) fun hc => ?_)
  obtain ⟨hc8, hm9⟩ := A9.out.2 hc
  obtain ⟨t2, hE2, hl2⟩ := P11.out hc8
  have h1 := A1.out.1
  have h4 := A4.out.1
  have h8 := (A8.out.2 hc8).2
  have hn := HN3.out
  have hE' := (hE2.kq K9'.out (by omega)).node 9 a 0 0 0 [] (Or.inr (Or.inr (Or.inr (Or.inr (Or.inr (Or.inr ⟨rfl, rfl⟩))))))
  refine ⟨_, pe_le hE' (by omega), ?_⟩
  show ([123] ++ x0.2.2 ++ t2 ++ [125]).length ≤ _
  simp only [lnA, lnC, lnN]
  omega
 ·have hsel : (b && !p) = false := by
   cases b <;> cases p <;> simp at hbp ⊢
  cases b
  all_goals cases p
  case true.false => simp at hbp
  all_goals
   clear hbp hsel HBk
   have e6h := hI e6
   have r6h := hI r6
   clear e6 r6
   go_wp2_with fail
   go_loopg [9] m4 (fun gk _ wr => ∃ (cr : Int) (mr : Nat) (sa : Option Addr) (sl sc : Nat), gk = mr ∧ Hid (Sx br s wr cr mr) ∧ Hid (Kq br w wr) ∧ Hid (wr.heap[w.heap.size + 1]? = some (.cells #[.int .i64 8, .int .i64 a, .int .i64 0, .int .i64 0, .int .u64 0, .string ⟨#[]⟩, .slice sa sl sc] 55)) ∧ Hid (wr.heap[w.heap.size]? = some (.cells #[.int .i64 0, .int .i64 0, .int .i64 0, .int .i64 0, .int .u64 0, .string ⟨#[]⟩, .slice none 0 0] 55)) ∧ w.heap.size + 2 ≤ wr.heap.size ∧ Hid (Lst (w.heap.size + 2) m1 wr cr mr (.slice sa sl sc)) ∧ Hid (Adv 0 m cr mr))
   case atStart => exact ⟨c4, m4, _, _, _, rfl, X6, K6, e6h, r6h, z6, LST, A14⟩
   case round =>
    obtain ⟨cr, mr, sa, sl, sc, hgk, XR, KR, ER, RR, zR, LR, AR⟩ := hrel
    subst hgk
    clear LST X6 K6 e6h r6h z6 A14
    go_wp2_with fail
    refine (accept_any XR.out _).mono ?_
    rintro e w3 ⟨bo, rfl, hk3, hh⟩
    have HH := hI hh
    have K3 : Hid (Kq br wr w3) := hk3
    clear hh hk3
    cases bo
    case false =>
     rcases HH.out with ⟨h1, _⟩ | ⟨_, h1⟩
     ·cases h1
     ·subst h1
      clear HH K3
      go_wp2_with fail
      refine (must_any XR.out _).mono ?_
      rintro e w9 ⟨rfl, hk9, c9, m9, hx9, ha9⟩
      have e9 := (hk9.block (w.heap.size + 1) (by omega) (by omega)).trans ER.out
      have r9 := (hk9.block w.heap.size (by omega) (by omega)).trans RR.out
      have K9 : Hid (Kq br w w9) := KR.out.trans hk9
      have K9' := hI hk9
      have X9 := hI hx9
      have A9 := hI ha9
      obtain ⟨p0, p1, p2, p3, p4, p5, p6, pf, pl⟩ := bx e9
      obtain ⟨q0, q1, q2, q3, q4, q5, q6, qf, ql⟩ := bx r9
      clear e9 r9 hk9 hx9 ha9
      go_wp2_with fail
      refine bodyPost_ret (v := .agg #[.int .i64 8, .int .i64 a, .int .i64 0, .int .i64 0, .int .u64 0, .string ⟨#[]⟩, .slice sa sl sc]) (by simp [results, Tryz.results86, go_sem, *]) rfl (ex_close hlt K9.out X9.out (AR.out.trans A9.out) fun hc => ?_)
      obtain ⟨hc4, hm9⟩ := A9.out.2 hc
      obtain ⟨es, hE, hn1, hn2, hn3⟩ := LR.out hc4
      have h1 := (AR.out.2 hc4).2
      have hA := A1.out.1
      have hE' := (hE.kq K9'.out (by omega)).node 8 a 0 0 0 [] (Or.inr (Or.inr (Or.inr (Or.inr (Or.inr (Or.inl ⟨rfl, hn1⟩))))))
      refine ⟨_, pe_le hE' (by omega), ?_⟩
      show ([123] ++ commaTxt (es.map (fun x : Ele => x.2.2)) ++ [125]).length ≤ _
      simp only [lnA, lnC, lnN]
      omega
    case true =>
     rcases HH.out with ⟨_, hc0, m3, hm3, hx3⟩ | ⟨h1, _⟩
     ·subst hc0
      obtain ⟨es, hE, hn1, hn2, hn3⟩ := LR.out rfl
      have HE := hI (hE.kq K3.out (by omega))
      have HN3 := hI hn3
      have hm1 : m1 ≤ 60001 := X1.out.le
      have X3 := hI hx3
      have HL : Hid (meas 0 m3 < M) := by
       have h1 := (AR.out.2 rfl).2
       have h2 := HM.out
       simp only [meas, if_pos]
       show _ < _
       omega
      have e3 := (K3.out.block (w.heap.size + 1) (by omega) (by omega)).trans ER.out
      have r3 := (K3.out.block w.heap.size (by omega) (by omega)).trans RR.out
      have z3 : w.heap.size + 2 ≤ w3.heap.size := by have := K3.out.size; omega
      have K3' : Hid (Kq br w w3) := KR.out.trans K3.out
      have hgr : Hid (∀ g, Value.ownBlock (.slice sa sl sc) = some g → w.heap.size + 2 ≤ g ∧ g < w3.heap.size) := Els.own HE.out hn1
      clear hE hn3 hx3 HH K3 ER RR KR XR LR
      go_wp2_with fail
      refine (HI.out _ HL.out br s 0 m3 w3 X3.out (Nat.le_refl _)).mono ?_
      rintro e w4 ⟨k4, a4, op4, wd4, n4, nm4, sa4, sl4, sc4, rfl, hk4, c4, m4, hx4, ha4, hp4⟩
      have e4 := (hk4.block (w.heap.size + 1) (by omega) (by omega)).trans e3
      have r4 := (hk4.block w.heap.size (by omega) (by omega)).trans r3
      have z4 : w.heap.size + 2 ≤ w4.heap.size := by have := hk4.size; omega
      have K4 : Hid (Kq br w w4) := K3'.out.trans hk4
      have HE4 := hI (HE.out.kq hk4 (by omega))
      have X4 := hI hx4
      have A4 := hI ha4
      have P4 := hI hp4
      have E4 := hI e4
      have R4 := hI r4
      clear hk4 hx4 ha4 hp4 e3 r3 K3' X3 HL HE
      obtain ⟨g0, rfl, rfl⟩ := HE4.out.form hn1
      obtain ⟨hg1, hg2⟩ := hgr.out g0 rfl
      have HG := hI hg1
      have hgne : ¬ w.heap.size + 1 = g0 := by omega
      obtain ⟨p0, p1, p2, p3, p4, p5, p6, pf, pl⟩ := bx e4
      clear e4 r4
      obtain ⟨i55, hi, hz, hsz, hby⟩ := info55'
      have HI5 := hI hi
      have HZ5 := hI hz
      have HS5 := hI hsz
      have HB5 := hI hby
      clear hi hz hsz hby
      go_wp2_with (at_builtin; refine wpList_append_lies _ rfl (.tmp 50) (.tmp 52) 53 rfl (w.heap.size + 2) 55 i55 _ 7 80 Tryz.underlying53 HI5.out HZ5.out HS5.out HB5.out rfl (by decide) (.slice (some ⟨g0, 0, none⟩) es.length sc) es.length _ rfl (els_alloc2 HE4.out _ _).1 ⟨w4.heap.size + 1, 0, none⟩ 1 1 [.int .i64 k4, .int .i64 a4, .int .i64 op4, .int .i64 wd4, .int .u64 n4, .string nm4, .slice sa4 sl4 sc4] rfl rfl (seven_new _ _ _ _ _ _ _ _ _ _) seven_one (by decide) (by simp only [maxLen]; omega) (by omega) (by simp; omega) _ rfl ?_; intro g5 cap5 w5 hownX hgrowX hatX hltX; have eX := (grown_box hgrowX (k := w.heap.size + 1) pl (by simp [Value.ownBlock]; try omega)).trans E4.out; have O5 := hI hownX; have G5 := hI hgrowX; have T5 := hI hatX; clear hownX hgrowX hatX; obtain ⟨p0, p1, p2, p3, p4, p5, p6, pf, plX⟩ := bx eX; clear eX)
      generalize hS : w5.setCell ⟨w.heap.size + 1, 6, none⟩ _ = w6
      obtain ⟨K6, X6, e6, r6, o6, z6, zz6⟩ := app_done z4 hlt K4.out X4.out E4.out R4.out G5.out (by intro k hk; simp [Value.ownBlock] at hk; have := HG.out; omega) hS
      have LST := hI (lst_next HE4.out hn1 hn2 HN3.out hm3 P4.out (fun h => (A4.out.2 h).2) z3 (by intro g hg; simp [Value.ownBlock] at hg; omega) O5.out G5.out T5.out o6.out)
      go_roundg m4
      case measure => have := A4.out.1; omega
      case rel => exact ⟨c4, m4, _, _, _, rfl, X6, K6, e6, r6, z6, LST, Adv.trans AR.out (Adv.trans ⟨Nat.le_of_lt hm3, fun _ => ⟨rfl, hm3⟩⟩ A4.out)⟩
     ·cases h1
theorem els_build {L : Nat} {W : World} {es : List Ele} {arr : Array Value} (hes : ∀ x ∈ es, PE (fun b => L ≤ b) W x.1 x.2.1 x.2.2) (harr : arr.toList = es.flatMap (·.2.1)) (hL : L ≤ W.heap.size) (hn : es.length ≤ 100) :
  Els L (W.alloc (.cells arr 55)) (.slice (some ⟨W.heap.size, 0, none⟩) es.length es.length) es := by
 have h7 : ∀ (l : List Ele), (∀ x ∈ l, x.2.1.length = 7) → (l.flatMap (·.2.1)).length = l.length * 7 := by
  intro l
  induction l with
  | nil => intro _; rfl
  | cons y r ih =>
   intro h
   rw [List.flatMap_cons, lnA, h y (by simp), ih (fun x hx => h x (by simp [hx])), lnC]; omega
 have hl := h7 es (fun x hx => (hes x hx).len)
 refine ⟨⟨hl, .inr ⟨W.heap.size, es.length, arr, rfl, hL, heap_alloc_self W _, Nat.le_refl _, by simp only [maxLen]; omega, ?_, ?_⟩⟩, fun x hx => ?_⟩
 ·rw [← hl, ← harr, Array.length_toList]
 ·rw [harr, List.take_of_length_le (by omega)]
 ·refine (hes x hx).strong.mono ?_ ?_
  ·intro b hb
   have h1 : L ≤ b := hb.1
   have h2 := hb.2
   refine ⟨h1, ?_⟩
   intro e
   have e' : b = W.heap.size := Option.some.inj e
   omega
  ·intro b o u hb hu
   rw [World.cell?_of_block (a := ⟨b, o, none⟩) (Below.heap_alloc _ _ _ (cell_lt hu))]; exact hu
theorem set7_alloc {w : World} {L : Nat} (hL : L < w.heap.size) (o : Obj) (u0 u1 u2 u3 u4 u5 u6 : Value) : (set7 w L u0 u1 u2 u3 u4 u5 u6).alloc o = set7 (w.alloc o) L u0 u1 u2 u3 u4 u5 u6 := by
 unfold set7
 have sz : ∀ (w : World) (i : Nat) (u : Value), (w.setCell ⟨L, i, none⟩ u).heap.size = w.heap.size := fun w i u => by simp [World.setCell]
 have h6 : L < ((((((w.setCell ⟨L, 0, none⟩ u0).setCell ⟨L, 1, none⟩ u1).setCell ⟨L, 2, none⟩ u2).setCell ⟨L, 3, none⟩ u3).setCell ⟨L, 4, none⟩ u4).setCell ⟨L, 5, none⟩ u5).heap.size := by rw [sz, sz, sz, sz, sz, sz]; exact hL
 have h5 : L < (((((w.setCell ⟨L, 0, none⟩ u0).setCell ⟨L, 1, none⟩ u1).setCell ⟨L, 2, none⟩ u2).setCell ⟨L, 3, none⟩ u3).setCell ⟨L, 4, none⟩ u4).heap.size := by rw [sz, sz, sz, sz, sz]; exact hL
 have h4 : L < ((((w.setCell ⟨L, 0, none⟩ u0).setCell ⟨L, 1, none⟩ u1).setCell ⟨L, 2, none⟩ u2).setCell ⟨L, 3, none⟩ u3).heap.size := by rw [sz, sz, sz, sz]; exact hL
 have h3 : L < (((w.setCell ⟨L, 0, none⟩ u0).setCell ⟨L, 1, none⟩ u1).setCell ⟨L, 2, none⟩ u2).heap.size := by rw [sz, sz, sz]; exact hL
 have h2 : L < ((w.setCell ⟨L, 0, none⟩ u0).setCell ⟨L, 1, none⟩ u1).heap.size := by rw [sz, sz]; exact hL
 have h1 : L < (w.setCell ⟨L, 0, none⟩ u0).heap.size := by rw [sz]; exact hL
 rw [World.setCell_alloc_past _ _ _ _ hL, World.setCell_alloc_past _ _ _ _ h1, World.setCell_alloc_past _ _ _ _ h2, World.setCell_alloc_past _ _ _ _ h3, World.setCell_alloc_past _ _ _ _ h4, World.setCell_alloc_past _ _ _ _ h5, World.setCell_alloc_past _ _ _ _ h6]
theorem ex_close2 {br : Nat} {s : ByteArray} {c : Int} {m : Nat} {w w7 : World} {k a op wd n : Int} {nm : ByteArray} {sa : Option Addr} {sl sc : Nat} {c' : Int} {m' : Nat} (o1 o2 : Obj) (hbr : br < w.heap.size) (hz : w.heap.size < w7.heap.size) (K : Kq br w w7) (X : Sx br s w7 c' m') (A : Adv c m c' m')
  (hP : c' = 0 → ∃ t, PE (fun b => w.heap.size + 1 ≤ b) ((w7.alloc o1).alloc o2) k [.int .i64 k, .int .i64 a, .int .i64 op, .int .i64 wd, .int .u64 n, .string nm, .slice sa sl sc] t ∧ t.length ≤ 64 * (m - m')) :
  ExPost br s c m w (.returned (.agg #[.int .i64 k, .int .i64 a, .int .i64 op, .int .i64 wd, .int .u64 n, .string nm, .slice sa sl sc])) (((set7 w7 w.heap.size (.int .i64 k) (.int .i64 a) (.int .i64 op) (.int .i64 wd) (.int .u64 n) (.string nm) (.slice sa sl sc)).alloc o1).alloc o2) := by
 rw [set7_alloc hz, set7_alloc (by simp; omega)]
 exact ex_close hbr ((K.alloc _).alloc _) ((X.alloc _).alloc _) A hP
theorem inTxt_len' (k : Int) (t : List UInt8) : (inTxt k t).length ≤ t.length + 2 := by
 unfold inTxt; split
 ·simp
 ·omega
theorem node7 (op : Int) (nm : List UInt8) (x y z : Ele) : (nodeTxt 7 op nm [x, y, z]).length ≤ x.2.2.length + y.2.2.length + z.2.2.length + 12 := by
 have h : nodeTxt 7 op nm [x, y, z] = inTxt x.1 x.2.2 ++ [32, 63, 32] ++ inTxt y.1 y.2.2 ++ [32, 58, 32] ++ inTxt z.1 z.2.2 := rfl
 rw [h]
 have a := inTxt_len' x.1 x.2.2
 have b := inTxt_len' y.1 y.2.2
 have c := inTxt_len' z.1 z.2.2
 simp only [lnA, lnC, lnN]
 omega
theorem expr_any (M : Nat) (IH : ∀ M', M' < M → CExpr M') (CB : CBin M 0) : CExpr M := by
 intro br s c m w h hM
 have HX := hI h
 have hlt := h.lt
 have HM := hI hM
 have HI := hI IH
 have HB := hI CB
 clear hM IH CB h
 go_enter Tryz.func19, Tryz.ntmps19
 go_wp2_with fail
 generalize hW : w.alloc (.cells _ 55) = W
 obtain ⟨hz, r0, o0, kW⟩ := one_box hW
 have KW := kW br
 have SW : Hid (Sx br s W c m) := HX.out.to (o0 br hlt)
 clear hW kW o0
 refine (HB.out br s c m W SW.out HM.out).mono ?_
 rintro e w1 ⟨k1, a1, op1, wd1, n1, nm1, sa1, sl1, sc1, rfl, hk1, c1, m1, hx1, ha1, hp1⟩
 have r1 := (hk1.block w.heap.size (by omega) (by omega)).trans r0
 have z1 : w.heap.size + 1 ≤ w1.heap.size := by have := hk1.size; omega
 have K1 : Hid (Kq br w w1) := KW.out.trans hk1
 have X1 := hI hx1
 have A1 := hI ha1
 have P1 := hI hp1
 have R1 := hI r1
 obtain ⟨ka, wda, na, Ta, aa, qa, faa, hra, h'⟩ := hx1
 obtain ⟨c0, c1', c2, c3, c4, c5, c6, c7, c8, fz⟩ := hra.all
 clear hk1 ha1 hp1 r1 r0 h' KW SW hra
 have hlt1 : br < w1.heap.size := by omega
 go_wp2_with fail
 generalize hW2 : w1.alloc (.cells _ 55) = w2
 obtain ⟨z2, b2, o2, k12⟩ := one_box hW2
 have K12 := k12 br
 have B2 := hI b2
 have X2 : Hid (Sx br s w2 c1 m1) := X1.out.to (o2 br (by omega))
 have R2 := hI ((o2 w.heap.size (by omega)).trans R1.out)
 clear hW2 k12 c0 c1' c2 c3 c4 c5 c6 c7 c8 fz o2 b2
 refine (accept_any X2.out _).mono ?_
 rintro e w3 ⟨bo, rfl, hk3, hh⟩
 have HH := hI hh
 have K3 : Hid (Kq br w2 w3) := hk3
 clear hh hk3
 cases bo
 case false =>
  rcases HH.out with ⟨h1, _⟩ | ⟨_, h1⟩
  ·cases h1
  ·subst h1
   obtain ⟨p0, p1, p2, p3, p4, p5, p6, pf, pl⟩ := bx B2.out
   obtain ⟨q0, q1, q2, q3, q4, q5, q6, qf, ql⟩ := bx R2.out
   clear HH K3
   go_wp2_with fail
   exact bodyPost_ret (v := .agg #[.int .i64 k1, .int .i64 a1, .int .i64 op1, .int .i64 wd1, .int .u64 n1, .string nm1, .slice sa1 sl1 sc1]) (by simp [results, Tryz.results19, go_sem, *]) rfl (ex_close hlt (K1.out.trans K12.out) X2.out A1.out fun hc => by
    obtain ⟨t, hp, hl⟩ := P1.out hc
    exact ⟨t, pe_le (hp.kq K12.out (by omega)) (by omega), hl⟩)
 case true =>
  rcases HH.out with ⟨_, hc0, m3, hm3, hx3⟩ | ⟨h1, _⟩
  ·subst hc0
   have P1z := hI (P1.out rfl)
   clear P1
   have X3 := hI hx3
   have HL : Hid (meas 0 m3 < M) := meas_lt A1.out hm3 HM.out
   have hM1 : Hid (m3 + 1 < M) := by have := HL.out; simp only [meas, if_pos] at this; exact this
   have r3 := (K3.out.block w.heap.size (by omega) (by omega)).trans R2.out
   have b3 := (K3.out.block w1.heap.size (by omega) (by omega)).trans B2.out
   have z3 : w1.heap.size + 1 ≤ w3.heap.size := by have := K3.out.size; omega
   have K13 : Hid (Kq br w1 w3) := K12.out.trans K3.out
   clear hx3 HH K3 X2 R2 B2 K12 R1
   go_wp2_with fail
   refine (HI.out _ HL.out br s 0 m3 w3 X3.out (Nat.le_refl _)).mono ?_
   rintro e w4 ⟨k4, a4, op4, wd4, n4, nm4, sa4, sl4, sc4, rfl, hk4, c4, m4, hx4, ha4, hp4⟩
   have r4 := (hk4.block w.heap.size (by omega) (by omega)).trans r3
   have b4 := (hk4.block w1.heap.size (by omega) (by omega)).trans b3
   have z4 : w1.heap.size + 1 ≤ w4.heap.size := by have := hk4.size; omega
   have K14 : Hid (Kq br w1 w4) := K13.out.trans hk4
   have X4 := hI hx4
   have A4 := hI ha4
   have P4 := hI hp4
   have Z34 : Hid (w3.heap.size ≤ w4.heap.size) := hk4.size
   clear hk4 hx4 ha4 hp4 r3 b3 K13 X3 HL
   go_wp2_with fail
   generalize hW5 : w4.alloc (.cells _ 55) = w5
   obtain ⟨z5, d5, o5, k45⟩ := one_box hW5
   have K45 := k45 br
   have X5 : Hid (Sx br s w5 c4 m4) := X4.out.to (o5 br (by omega))
   have r5 := (o5 w.heap.size (by omega)).trans r4
   have b5 := (o5 w1.heap.size (by omega)).trans b4
   clear hW5 k45 o5 r4 b4
   refine (must_any X5.out _).mono ?_
   rintro e w6 ⟨rfl, hk6, c6, m6, hx6, ha6⟩
   have r6 := (hk6.block w.heap.size (by omega) (by omega)).trans r5
   have b6 := (hk6.block w1.heap.size (by omega) (by omega)).trans b5
   have d6 := (hk6.block w4.heap.size (by omega) (by omega)).trans d5
   have z6 : w4.heap.size + 1 ≤ w6.heap.size := by have := hk6.size; omega
   have K46 : Hid (Kq br w4 w6) := K45.out.trans hk6
   have X6 := hI hx6
   have A6 := hI ha6
   have HL6 : Hid (meas c6 m6 < M) := meas_zero_lt (m := m3) (A4.out.trans ha6) (by have := hM1.out; omega)
   clear hk6 hx6 ha6 r5 b5 d5 K45 X5
   go_wp2_with fail
   refine (HI.out _ HL6.out br s c6 m6 w6 X6.out (Nat.le_refl _)).mono ?_
   rintro e w7 ⟨k7, a7, op7, wd7, n7, nm7, sa7, sl7, sc7, rfl, hk7, c7, m7, hx7, ha7, hp7⟩
   have r7 := (hk7.block w.heap.size (by omega) (by omega)).trans r6
   have b7 := (hk7.block w1.heap.size (by omega) (by omega)).trans b6
   have d7 := (hk7.block w4.heap.size (by omega) (by omega)).trans d6
   have z7 : w4.heap.size + 1 ≤ w7.heap.size := by have := hk7.size; omega
   have K47 : Hid (Kq br w4 w7) := K46.out.trans hk7
   have X7 := hI hx7
   have A7 := hI ha7
   have P7 := hI hp7
   have Z67 : Hid (w6.heap.size ≤ w7.heap.size) := hk7.size
   clear hk7 hx7 ha7 hp7 r6 b6 d6 HL6 HI X6 K46
   obtain ⟨q0, q1, q2, q3, q4, q5, q6, qf, ql⟩ := bx r7
   obtain ⟨p0, p1, p2, p3, p4, p5, p6, pf, pl⟩ := bx b7
   obtain ⟨y0, y1, y2, y3, y4, y5, y6, yf, yl⟩ := bx d7
   clear r7 b7 d7
   go_wp2_with fail
   refine bodyPost_ret (v := .agg #[.int .i64 7, .int .i64 aa, .int .i64 0, .int .i64 0, .int .u64 0, .string ⟨#[]⟩, .slice (some ⟨w7.heap.size + 1, 0, none⟩) 3 3]) (by simp [results, Tryz.results19, go_sem, *]) rfl (ex_close2 _ _ hlt (by omega) ((K1.out.trans K14.out).trans K47.out) X7.out (Adv.trans A1.out (Adv.trans ⟨Nat.le_of_lt hm3, fun _ => ⟨rfl, hm3⟩⟩ (Adv.trans A4.out (Adv.trans A6.out A7.out)))) fun hc => ?_)
   obtain ⟨hc6, hm7⟩ := A7.out.2 hc
   obtain ⟨hc4, hm6⟩ := A6.out.2 hc6
   obtain ⟨_, hm4⟩ := A4.out.2 hc4
   obtain ⟨_, hm1⟩ := A1.out.2 rfl
   obtain ⟨t1, hp1, hl1⟩ := P1z.out
   obtain ⟨t4, hp4, hl4⟩ := P4.out hc4
   obtain ⟨t7, hp7, hl7⟩ := P7.out hc
   have hp1' := ((hp1.kq K14.out (by omega)).kq K47.out (by omega))
   have hp4' := hp4.kq K47.out (by omega)
   have hE := els_build (L := w.heap.size + 1) (W := w7.alloc (.cells #[.int .i64 k7, .int .i64 a7, .int .i64 op7, .int .i64 wd7, .int .u64 n7, .string nm7, .slice sa7 sl7 sc7] 55))
    (es := [(k1, [.int .i64 k1, .int .i64 a1, .int .i64 op1, .int .i64 wd1, .int .u64 n1, .string nm1, .slice sa1 sl1 sc1], t1), (k4, [.int .i64 k4, .int .i64 a4, .int .i64 op4, .int .i64 wd4, .int .u64 n4, .string nm4, .slice sa4 sl4 sc4], t4), (k7, [.int .i64 k7, .int .i64 a7, .int .i64 op7, .int .i64 wd7, .int .u64 n7, .string nm7, .slice sa7 sl7 sc7], t7)]) (arr := #[.int .i64 k1, .int .i64 a1, .int .i64 op1, .int .i64 wd1, .int .u64 n1, .string nm1, .slice sa1 sl1 sc1, .int .i64 k4, .int .i64 a4, .int .i64 op4, .int .i64 wd4, .int .u64 n4, .string nm4, .slice sa4 sl4 sc4, .int .i64 k7, .int .i64 a7, .int .i64 op7, .int .i64 wd7, .int .u64 n7, .string nm7, .slice sa7 sl7 sc7]) (by
     intro x hx
     have al : ∀ {L' : Nat} {k : Int} {cs : List Value} {t : List UInt8}, PE (fun b => L' ≤ b) w7 k cs t → w.heap.size + 1 ≤ L' → PE (fun b => w.heap.size + 1 ≤ b) (w7.alloc (.cells #[.int .i64 k7, .int .i64 a7, .int .i64 op7, .int .i64 wd7, .int .u64 n7, .string nm7, .slice sa7 sl7 sc7] 55)) k cs t := fun h hL =>
      (pe_le h hL).mono (fun _ h => h) (fun b o u _ hu => by rw [World.cell?_of_block (a := ⟨b, o, none⟩) (Below.heap_alloc _ _ _ (cell_lt hu))]; exact hu)
     simp only [List.mem_cons, List.not_mem_nil, or_false] at hx
     rcases hx with rfl | rfl | rfl
     ·exact al hp1' (by omega)
     ·exact al hp4' (by omega)
     ·exact al hp7 (by omega)) rfl (by simp; omega) (by simp)
   rw [World.size_alloc] at hE
   have hE' := hE.node 7 aa 0 0 0 [] (Or.inr (Or.inr (Or.inr (Or.inr (Or.inl ⟨rfl, rfl⟩)))))
   have hnl := node7 0 [] (k1, [.int .i64 k1, .int .i64 a1, .int .i64 op1, .int .i64 wd1, .int .u64 n1, .string nm1, .slice sa1 sl1 sc1], t1) (k4, [.int .i64 k4, .int .i64 a4, .int .i64 op4, .int .i64 wd4, .int .u64 n4, .string nm4, .slice sa4 sl4 sc4], t4) (k7, [.int .i64 k7, .int .i64 a7, .int .i64 op7, .int .i64 wd7, .int .u64 n7, .string nm7, .slice sa7 sl7 sc7], t7)
   refine ⟨_, hE', ?_⟩
   simp only at hnl
   omega
  ·cases h1
theorem three_boxes {w W : World} {o1 o2 o3 : Obj} (hW : ((w.alloc o1).alloc o2).alloc o3 = W) :
  W.heap.size = w.heap.size + 3 ∧ W.heap[w.heap.size]? = some o1 ∧ W.heap[w.heap.size + 1]? = some o2 ∧ W.heap[w.heap.size + 2]? = some o3 ∧ (∀ br, Hid (Kq br w W)) ∧ (∀ k, k < w.heap.size → W.heap[k]? = w.heap[k]?) := by
 generalize h2 : (w.alloc o1).alloc o2 = w2 at hW
 obtain ⟨z2, r2, e2, k2, _⟩ := two_boxes h2
 obtain ⟨z3, b3, o3', k3⟩ := one_box hW
 refine ⟨by omega, (o3' _ (by omega)).trans r2, (o3' _ (by omega)).trans e2, ?_, fun br => (k2 br).out.trans (k3 br).out, fun k hk => ?_⟩
 ·rw [z2] at b3; exact b3
 ·rw [o3' k (by omega), ← h2, Below.heap_alloc _ _ _ (by simp; omega), Below.heap_alloc _ _ _ hk]
def isStr' : Value → Bool
 | .string _ => true
 | _ => false
theorem str_at {W : World} {b : Nat} {cs : Array Value} {T : TypeId} (h : W.heap[b]? = some (.cells cs T)) (hs : cs.all isStr' = true) {k : Nat} (hk : k < cs.size) : ∃ t, W.cell? ⟨b, k, none⟩ = some (.string t) := by
 have hv := Array.all_eq_true.1 hs k hk
 have hc : W.cell? ⟨b, k, none⟩ = some cs[k] := by simp [World.cell?, h, hk]
 rw [hc]
 cases hx : cs[k] <;> rw [hx] at hv <;> simp [isStr'] at hv
 exact ⟨_, rfl⟩
theorem node5 (op : Int) (nm : List UInt8) (x : Ele) (h1 : 1 ≤ op) (h2 : op ≤ 6) : (nodeTxt 5 op nm [x]).length ≤ x.2.2.length + 12 := by
 have h : nodeTxt 5 op nm [x] = signTxt op ++ inTxt x.1 x.2.2 := rfl
 rw [h]
 have a := inTxt_len' x.1 x.2.2
 have b := sign_len op (by omega) (by omega)
 simp only [lnA]
 omega
theorem ExPost.drew {br : Nat} {s : ByteArray} {c : Int} {m : Nat} {w w' : World} {e : Ending} (h : ExPost br s c m w e w') : ExPost br s c m w e w'.drew := by
 obtain ⟨k, a, op, wd, n, nm, sa, sl, sc, he, K, c', m', X, A, P⟩ := h
 refine ⟨k, a, op, wd, n, nm, sa, sl, sc, he, K.drew, c', m', X.drew, A, fun hc => ?_⟩
 obtain ⟨t, hp, hl⟩ := P hc
 exact ⟨t, PE.mono (S' := fun b => w.heap.size ≤ b) (w := w') (w' := w'.drew) (fun _ h => h) (fun _ _ _ _ hu => hu) hp, hl⟩
theorem unary_any (M : Nat) (IH : ∀ M', M' < M → CUnary M') (CP : CPrim M) : CUnary M := by
 intro br s c m w h hM
 have HX := hI h
 have hlt := h.lt
 have HM := hI hM
 have HI := hI IH
 have HP := hI CP
 clear hM IH CP h
 go_enter Tryz.func53, Tryz.ntmps53
 go_wp2_with fail
 generalize hW : ((w.alloc (.cells _ 55)).alloc (.cells _ 9)).alloc (.cells _ 3) = W
 obtain ⟨hz, r0, s0, t0, kW, oW⟩ := three_boxes hW
 have KW := kW br
 have SW : Hid (Sx br s W c m) := HX.out.to (oW br hlt)
 have R0 := hI r0
 have S0 := hI s0
 have T0 := hI t0
 clear hW kW oW
 obtain ⟨ka, wda, na, Ta, aa, qa, faa, hra, h'⟩ := SW.out
 obtain ⟨c0, c1', c2, c3, c4, c5, c6, c7, c8, fz⟩ := hra.all
 clear h' hra r0 s0 t0
 go_loop [5, 6, 7, 8] (fun i _ _ _ => ∃ k : Nat, k ≤ 6 ∧ i = .int .i64 k) (fun i _ _ _ => 6 - (intOf i).toNat)
 case atStart => exact ⟨0, by omega, rfl⟩
 case round =>
  obtain ⟨k, hk, rfl⟩ := hrel
  by_cases hk6 : k < 6
  ·obtain ⟨tk, htk⟩ := str_at S0.out (by decide +kernel) (k := k) (by exact hk6)
   have hwk : W.cell? ⟨w.heap.size + 2, k, none⟩ = some (.int .i64 ((k : Int) + 1)) := by
    have h := T0.out
    match k, hk6 with
    | 0, _ => simp [World.cell?, h]
    | 1, _ => simp [World.cell?, h]
    | 2, _ => simp [World.cell?, h]
    | 3, _ => simp [World.cell?, h]
    | 4, _ => simp [World.cell?, h]
    | 5, _ => simp [World.cell?, h]
   have HWK := hI hwk
   clear hwk
   go_wp2_with fail
   refine (accept_any SW.out _).mono ?_
   rintro e w3 ⟨bo, rfl, hk3, hh⟩
   have HH := hI hh
   have K3 : Hid (Kq br W w3) := hk3
   clear hh hk3
   cases bo
   case false =>
    rcases HH.out with ⟨h1, _⟩ | ⟨_, h1⟩
    ·cases h1
    ·subst h1
     clear HH K3
     go_wp2_with fail
     exact ⟨⟨k + 1, by omega, by go_num⟩, by simp [intOf]; omega⟩
   case true =>
    rcases HH.out with ⟨_, hc0, m3, hm3, hx3⟩ | ⟨h1, _⟩
    ·subst hc0
     have X3 := hI hx3
     have HL : Hid (meas 0 m3 < M) := by
      have := HM.out
      simp only [meas, if_pos] at *
      show _ < _
      omega
     have r3 := (K3.out.block w.heap.size (by omega) (by omega)).trans R0.out
     have v3 : w3.cell? ⟨w.heap.size + 2, k, none⟩ = some (.int .i64 ((k : Int) + 1)) := by
      rw [K3.out.cell (by omega) (by omega)]; exact HWK.out
     have z3 : w.heap.size + 3 ≤ w3.heap.size := by have := K3.out.size; omega
     have K3' : Hid (Kq br w w3) := KW.out.trans K3.out
     clear hx3 HH K3 R0 S0 T0 c0 c1' c2 c3 c4 c5 c6 c7 c8 fz HWK htk
     go_wp2_with fail
     refine (HI.out _ HL.out br s 0 m3 w3 X3.out (Nat.le_refl _)).mono ?_
     rintro e w4 ⟨k4, a4, op4, wd4, n4, nm4, sa4, sl4, sc4, rfl, hk4, c4, m4, hx4, ha4, hp4⟩
     have r4 := (hk4.block w.heap.size (by omega) (by omega)).trans r3
     have v4 : w4.cell? ⟨w.heap.size + 2, k, none⟩ = some (.int .i64 ((k : Int) + 1)) := by
      rw [hk4.cell (by omega) (by omega)]; exact v3
     have z4 : w.heap.size + 3 ≤ w4.heap.size := by have := hk4.size; omega
     have K4 : Hid (Kq br w w4) := K3'.out.trans hk4
     have X4 := hI hx4
     have A4 := hI ha4
     have P4 := hI hp4
     clear hk4 hx4 ha4 hp4 r3 v3 K3' X3 HI HL SW KW
     obtain ⟨q0, q1, q2, q3, q4, q5, q6, qf, ql⟩ := bx r4
     clear r4
     have hkI : (k : Int) < 6 := by omega
     have v5 : w4.cell? ⟨w.heap.size + 1 + 1, k, none⟩ = some (.int .i64 ((k : Int) + 1)) := v4
     have zz4 : w.heap.size + 1 + 1 < w4.heap.size := by omega
     have zz5 : w.heap.size + 1 + 1 < w4.heap.size + 1 := by omega
     have ql5 : w.heap.size < w4.heap.size + 1 := by omega
     clear v4
     go_wp2_with fail
     go_region
     all_goals
      go_wp2_with fail
      refine bodyPost_ret (v := .agg #[.int .i64 5, .int .i64 aa, .int .i64 ((k : Int) + 1), .int .i64 0, .int .u64 0, .string ⟨#[]⟩, .slice (some ⟨w4.heap.size + 1, 0, none⟩) 1 1]) (by simp [results, Tryz.results53, go_sem, *]) rfl (ExPost.drew (ex_close2 _ _ hlt (by omega) K4.out X4.out (Adv.trans ⟨Nat.le_of_lt hm3, fun _ => ⟨rfl, hm3⟩⟩ A4.out) fun hc => ?_))
      obtain ⟨_, hm4⟩ := A4.out.2 hc
      obtain ⟨t4, hp4, hl4⟩ := P4.out hc
      have hE := els_build (L := w.heap.size + 1) (W := w4.alloc (.cells #[.int .i64 k4, .int .i64 a4, .int .i64 op4, .int .i64 wd4, .int .u64 n4, .string nm4, .slice sa4 sl4 sc4] 55))
       (es := [(k4, [.int .i64 k4, .int .i64 a4, .int .i64 op4, .int .i64 wd4, .int .u64 n4, .string nm4, .slice sa4 sl4 sc4], t4)]) (arr := #[.int .i64 k4, .int .i64 a4, .int .i64 op4, .int .i64 wd4, .int .u64 n4, .string nm4, .slice sa4 sl4 sc4]) (by
        intro x hx
        simp only [List.mem_cons, List.not_mem_nil, or_false] at hx
        subst hx
        exact (pe_le hp4 (by omega)).mono (fun _ h => h) (fun b o u _ hu => by rw [World.cell?_of_block (a := ⟨b, o, none⟩) (Below.heap_alloc _ _ _ (cell_lt hu))]; exact hu)) rfl (by simp; omega) (by simp)
      rw [World.size_alloc] at hE
      have hE' := hE.node 5 aa ((k : Int) + 1) 0 0 [] (Or.inr (Or.inr (Or.inl ⟨rfl, rfl, by omega, by omega⟩)))
      have hnl := node5 ((k : Int) + 1) [] (k4, [.int .i64 k4, .int .i64 a4, .int .i64 op4, .int .i64 wd4, .int .u64 n4, .string nm4, .slice sa4 sl4 sc4], t4) (by omega) (by omega)
      refine ⟨_, hE', ?_⟩
      simp only at hnl
      omega
    ·cases h1
  ·go_wp2_with fail
   refine (HP.out br s c m W SW.out HM.out).mono ?_
   rintro e w2 ⟨k2, a2, op2, wd2, n2, nm2, sa2, sl2, sc2, rfl, hk2, c', m', hx2, ha2, hp2⟩
   have r2 := (hk2.block w.heap.size (by omega) (by omega)).trans R0.out
   have K2 : Hid (Kq br w w2) := KW.out.trans hk2
   have X2 := hI hx2
   have A2 := hI ha2
   have P2 := hI hp2
   clear hk2 hx2 ha2 hp2
   obtain ⟨q0, q1, q2, q3, q4, q5, q6, qf, ql⟩ := bx r2
   clear r2 R0 S0 T0 c0 c1' c2 c3 c4 c5 c6 c7 c8 fz
   go_wp2_with fail
   exact bodyPost_ret (v := .agg #[.int .i64 k2, .int .i64 a2, .int .i64 op2, .int .i64 wd2, .int .u64 n2, .string nm2, .slice sa2 sl2 sc2]) (by simp [results, Tryz.results53, go_sem, *]) rfl (ex_close hlt K2.out X2.out A2.out fun hc => by
    obtain ⟨t, hp, hl⟩ := P2.out hc
    exact ⟨t, pe_le hp (by omega), hl⟩)
def isStrV : Value → Bool
 | .string _ => true
 | _ => false
def isOpV : Value → Bool
 | .int .i64 n => decide (7 ≤ n ∧ n ≤ 22)
 | _ => false
def OpsPost (w : World) (e : Ending) (w' : World) : Prop :=
 ∃ (nn : Nat) (cs ds : Array Value), 1 ≤ nn ∧ nn ≤ 4 ∧ e = .returned (.tuple #[.slice (some ⟨w.heap.size, 0, none⟩) nn nn, .slice (some ⟨w.heap.size + 1, 0, none⟩) nn nn]) ∧
  cs.size = nn ∧ ds.size = nn ∧ cs.all isStrV = true ∧ ds.all isOpV = true ∧ w' = (w.alloc (.cells cs 9)).alloc (.cells ds 3)
theorem ops_post {w : World} {nn : Nat} (cs ds : Array Value) (h1 : 1 ≤ nn) (h4 : nn ≤ 4) (hc : cs.size = nn) (hd : ds.size = nn) (ha : cs.all isStrV = true) (hb : ds.all isOpV = true) :
  OpsPost w (.returned (.tuple #[.slice (some ⟨w.heap.size, 0, none⟩) nn nn, .slice (some ⟨w.heap.size + 1, 0, none⟩) nn nn])) ((w.alloc (.cells cs 9)).alloc (.cells ds 3)) :=
 ⟨nn, cs, ds, h1, h4, rfl, hc, hd, ha, hb, rfl⟩
theorem ops_any (l : Int) (h0 : 0 ≤ l) (h9 : l ≤ 9) (w : World) : Calls Tryz.prog 54 #[.int .i64 l] w (OpsPost w) := by
 have h : l = 0 ∨ l = 1 ∨ l = 2 ∨ l = 3 ∨ l = 4 ∨ l = 5 ∨ l = 6 ∨ l = 7 ∨ l = 8 ∨ l = 9 := by omega
 clear h0 h9
 rcases h with rfl | rfl | rfl | rfl | rfl | rfl | rfl | rfl | rfl | rfl
 all_goals
  go_enter Tryz.func54, Tryz.ntmps54
  go_wp2
  go_ret2
  exact ops_post _ _ (by decide) (by decide) rfl rfl (by decide +kernel) (by decide +kernel)
end Go.Proofs.YtimmmlnememjiaaGreatDoor
